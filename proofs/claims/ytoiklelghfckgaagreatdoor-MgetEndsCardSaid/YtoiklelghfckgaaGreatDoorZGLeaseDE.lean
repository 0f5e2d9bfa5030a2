/- A part of the claim: the texts LeaseRefE LeaseRefD. -/
import Derived.Test.YtoiklelghfckgaaGreatDoorZGLeaseRef
import Derived.Test.YtoiklelghfckgaaGreatDoorZGLease
import Derived.Deep.CutRange
import Derived.Deep.CutBlock
set_option maxRecDepth 100000
set_option maxHeartbeats 8000000
set_option linter.unusedVariables false
namespace Go.Proofs.YtoiklelghfckgaaGreatDoor.Le
open Go.ChangeShapes Go.WideShapes Go.ChangeAt Go.RowKit Go.Deep Go.Maps Rw Hi Mt Ck
theorem take_lt {D:List (Int × Ls)} {id:Int} {k:Nat} {a:Int × Ls} (h:∀ a∈D.take k,a.1 < id) (hk:D[k]? = some a) (F:a.1 < id):∀ a∈D.take (k+1),a.1 < id:=by
 obtain ⟨z,rfl⟩:=List.getElem?_eq_some_iff.1 hk
 intro b u
 rw [List.take_succ_eq_append_getElem z] at u
 rcases List.mem_append.1 u with u | u
 ·exact h b u
 ·rw [List.mem_singleton.1 u]; exact F
section
variable (leak:Int) (A A2 A3:Option Addr) (n c n2 c2 n3 c3:Nat) (D:List (Int × Ls)) (M:List Int) (T:List (Int × Int)) (w:World)
theorem rbegin_any {K:Nat→Prop} (id th now:Int) (h:DkK K w ⟨A,n,c,A2,n2,c2,A3,n3,c3⟩ D M T) (b6:∀ g,w.heap.size≤g→K g) (hs:Sd D) (tms:Wl.Tms T) (hid:U64 id) (bG:U64 now) (bB:U64 leak) (hn:n≤1000) (bC:n2≤1000) (bD:n3≤1000) :
  Calls Tryz.prog 136 #[.agg #[.int .u64 leak,.slice A n c,.slice A2 n2 c2,.slice A3 n3 c3],.int .u64 id,.int .i64 th,.int .u64 now] w fun e w'=>∃ (d:Da) (D':List (Int × Ls)),e=.returned (.tuple #[d.val leak,.int .i64 (bE D id th)])∧(bL D id th now).Perm D'∧Sd D' ∧
   DkK K w' d D' M (bT leak D T id th now)∧Below w.heap.size w w':=by
 obtain ⟨i0,hi,aF,aG,aH⟩:=info_parts info_lease
 obtain ⟨b8,be,bg,bd⟩:=boxes leak A A2 A3 n c n2 c2 n3 c3 w
 have W:=Lh h
 have ag:=Lh b6
 clear b6
 have ad:=Lh b8
 have aj:=Lh be
 have ak:=Lh bg
 have aR:=Lh bd
 have ax:=Lh hs
 have aJ:=Lh tms
 have aP:Hid (D.length=n):=Lh h.l.len
 have bo:Hid (T.length=n3):=Lh h.t.len
 clear h b8 be bg bd hs tms
 by_cases h1:th < 0∨8≤th
 ·have e:bE D id th=2:=by unfold bE; rw [if_pos h1]
  have eL:bL D id th now=D:=by unfold bL; rw [e,if_neg (by decide)]
  have eT:bT leak D T id th now=T:=by unfold bT; rw [e,if_neg (fun h=>absurd h.1 (by decide))]
  rw [e,eL,eT]
  clear e eL eT
  go_enter Tryz.func136,Tryz.ntmps136
  go_upto_region 1 with (fail)
  generalize ((w.alloc (.cells #[.int .u64 leak,.slice A n c,.slice A2 n2 c2,.slice A3 n3 c3] 38)).alloc (.cells #[.int .u64 0,.slice none 0 0,.slice none 0 0,.slice none 0 0] 38))=W1 at *
  obtain ⟨⟨f0,f1,f2,f3⟩,g0,g1,g2,g3⟩:=aj.out
  obtain ⟨⟨r0,r1,r2,r3⟩,z0,z1,z2,z3⟩:=ak.out
  have aX:w.heap.size+2≤W1.heap.size:=by have:=aR.out; omega
  by_cases h0:th < 0
  ·have q1:decide (th < 0)=true:=decide_eq_true h0
   clear h1 h0
   go_wp2_with fail
   have J:Below w.heap.size w ((((W1.setCell ⟨w.heap.size+1,0,none⟩ (.int .u64 leak)).setCell ⟨w.heap.size+1,1,none⟩ (.slice A n c)).setCell ⟨w.heap.size+1,2,none⟩ (.slice A2 n2 c2)).setCell ⟨w.heap.size+1,3,none⟩ (.slice A3 n3 c3)):=by
    repeat' (first | exact ad.out | apply Below.setCell | apply below_drewN | apply Below.drew | apply Below.alloc)
    all_goals (first | (simp; done) | (simp; omega))
   refine bodyPost_ret (v:=.tuple #[.agg #[.int .u64 leak,.slice A n c,.slice A2 n2 c2,.slice A3 n3 c3],.int .i64 2]) (by simp [results,Tryz.results136,go_sem,r0,r1,r2,r3]) rfl ⟨⟨A,n,c,A2,n2,c2,A3,n3,c3⟩,D,rfl,List.Perm.refl _,ax.out,W.out.later J,J⟩
  ·have q1:decide (th < 0)=false:=decide_eq_false h0
   have q2:decide (7 < th)=true:=decide_eq_true (by omega)
   clear h1 h0
   go_wp2_with fail
   have J:Below w.heap.size w ((((W1.setCell ⟨w.heap.size+1,0,none⟩ (.int .u64 leak)).setCell ⟨w.heap.size+1,1,none⟩ (.slice A n c)).setCell ⟨w.heap.size+1,2,none⟩ (.slice A2 n2 c2)).setCell ⟨w.heap.size+1,3,none⟩ (.slice A3 n3 c3)):=by
    repeat' (first | exact ad.out | apply Below.setCell | apply below_drewN | apply Below.drew | apply Below.alloc)
    all_goals (first | (simp; done) | (simp; omega))
   refine bodyPost_ret (v:=.tuple #[.agg #[.int .u64 leak,.slice A n c,.slice A2 n2 c2,.slice A3 n3 c3],.int .i64 2]) (by simp [results,Tryz.results136,go_sem,r0,r1,r2,r3]) rfl ⟨⟨A,n,c,A2,n2,c2,A3,n3,c3⟩,D,rfl,List.Perm.refl _,ax.out,W.out.later J,J⟩
 have q1:decide (th < 0)=false:=decide_eq_false (by omega)
 have q2:decide (7 < th)=false:=decide_eq_false (by omega)
 rcases fx_cases D id with ⟨ar,aB⟩ | ⟨k,y,hk,bv,aB,ar⟩
 rotate_left
 ·have e:bE D id th=10:=by unfold bE; rw [if_neg h1,if_pos (by rw [ar]; rfl)]
  have eL:bL D id th now=D:=by unfold bL; rw [e,if_neg (by decide)]
  have eT:bT leak D T id th now=T:=by unfold bT; rw [e,if_neg (fun h=>absurd h.1 (by decide))]
  rw [e,eL,eT]
  clear e eL eT
  go_enter Tryz.func136,Tryz.ntmps136
  go_upto_region 1 with (fail)
  generalize ((w.alloc (.cells #[.int .u64 leak,.slice A n c,.slice A2 n2 c2,.slice A3 n3 c3] 38)).alloc (.cells #[.int .u64 0,.slice none 0 0,.slice none 0 0,.slice none 0 0] 38))=W1 at *
  obtain ⟨⟨f0,f1,f2,f3⟩,g0,g1,g2,g3⟩:=aj.out
  obtain ⟨⟨r0,r1,r2,r3⟩,z0,z1,z2,z3⟩:=ak.out
  have aX:w.heap.size+2≤W1.heap.size:=by have:=aR.out; omega
  have HF:=Lh (rfind_any leak A A2 A3 n c n2 c2 n3 c3 w.heap.size D W1 id (W.out.l.below ad.out) (by omega) (by omega))
  have q3:decide ((0:Int)≤(k:Int))=true:=decide_eq_true (by omega)
  rw [aB] at HF
  clear h1 hk bv aB ar
  go_wp2_with fail
  refine HF.out.mono ?_
  rintro e w2 ⟨rfl,ac⟩
  have au:=Lh (ad.out.trans (ac.mono ad.out.size))
  obtain ⟨⟨f0,f1,f2,f3⟩,g0,g1,g2,g3⟩:=aj.out.below ac (by omega)
  obtain ⟨⟨r0,r1,r2,r3⟩,z0,z1,z2,z3⟩:=ak.out.below ac (by omega)
  have bw:w.heap.size+2≤w2.heap.size:=by have:=ac.size; omega
  clear ac aj ak ad HF
  go_wp2_with fail
  have J:Below w.heap.size w ((((w2.setCell ⟨w.heap.size+1,0,none⟩ (.int .u64 leak)).setCell ⟨w.heap.size+1,1,none⟩ (.slice A n c)).setCell ⟨w.heap.size+1,2,none⟩ (.slice A2 n2 c2)).setCell ⟨w.heap.size+1,3,none⟩ (.slice A3 n3 c3)):=by
   repeat' (first | exact au.out | apply Below.setCell | apply below_drewN | apply Below.drew | apply Below.alloc)
   all_goals (first | (simp; done) | (simp; omega))
  refine bodyPost_ret (v:=.tuple #[.agg #[.int .u64 leak,.slice A n c,.slice A2 n2 c2,.slice A3 n3 c3],.int .i64 10]) (by simp [results,Tryz.results136,go_sem,r0,r1,r2,r3]) rfl ⟨⟨A,n,c,A2,n2,c2,A3,n3,c3⟩,D,rfl,List.Perm.refl _,ax.out,W.out.later J,J⟩
 have e0:bE D id th=0:=by unfold bE; rw [if_neg h1,if_neg (by rw [ar]; decide)]
 have eL:bL D id th now=(id,⟨th,now,false⟩) :: D:=by unfold bL; rw [if_pos e0]
 have bh:=Lh e0
 have bn:Hid (∀ a∈D,a.1≠id):=Lh (fun a ha e=>by
  have:=mem_key.2 ⟨a.2,(show (id,a.2)∈D by rw [← e]; exact ha)⟩
  have h9:=fnd_is (l:=D) (k:=id)
  rw [ar,decide_eq_true this] at h9; cases h9)
 rw [e0,eL]
 go_enter Tryz.func136,Tryz.ntmps136
 go_upto_region 1 with (fail)
 generalize ((w.alloc (.cells #[.int .u64 leak,.slice A n c,.slice A2 n2 c2,.slice A3 n3 c3] 38)).alloc (.cells #[.int .u64 0,.slice none 0 0,.slice none 0 0,.slice none 0 0] 38))=W1 at *
 obtain ⟨⟨f0,f1,f2,f3⟩,g0,g1,g2,g3⟩:=aj.out
 obtain ⟨⟨r0,r1,r2,r3⟩,z0,z1,z2,z3⟩:=ak.out
 have aX:w.heap.size+2≤W1.heap.size:=by have:=aR.out; omega
 have HF:=Lh (rfind_any leak A A2 A3 n c n2 c2 n3 c3 w.heap.size D W1 id (W.out.l.below ad.out) (by omega) (by omega))
 have q3:decide ((0:Int) ≤ -1)=false:=rfl
 have q4:decide ((1024:Int)≤(n:Int))=false:=decide_eq_false (by omega)
 have bM:decide (1024≤n)=false:=decide_eq_false (by omega)
 rw [aB] at HF
 clear h1 aB ar e0 eL
 go_wp2_with fail
 refine HF.out.mono ?_
 rintro e w2 ⟨rfl,ac⟩
 have au:=Lh (ad.out.trans (ac.mono ad.out.size))
 have VF:=Lh (aj.out.below ac (by omega))
 have VR:=Lh (ak.out.below ac (by omega))
 obtain ⟨⟨f0,f1,f2,f3⟩,g0,g1,g2,g3⟩:=VF.out
 have bw:w.heap.size+2≤w2.heap.size:=by have:=ac.size; omega
 clear ac aj ak ad HF aX r0 r1 r2 r3 z0 z1 z2 z3
 go_upto_block 0 with fail
 go_cut [10] from 13 to 100 (fun bz wx=>∃ k:Nat,k≤n∧bz=.int .i64 k∧Hid (∀ a∈D.take k,a.1 < id)∧Hid (∀ a∈D.drop k,id < a.1)∧w2=wx)
 case first=>
  go_wp2_with fail
  go_loopw [10] (fun i wr=>∃ k:Nat,k≤n∧i=.int .i64 k∧Hid (∀ a∈D.take k,a.1 < id)∧w2=wr) (fun i _=>n - (intOf i).toNat)
  case atStart=>exact ⟨0,Nat.zero_le _,rfl,Lh (fun a ha=>by simp at ha),rfl⟩
  case round=>
   obtain ⟨k,hk,rfl,aW,rfl⟩:=hrel
   by_cases ba:k < n
   ·obtain ⟨b,o,x,t,s,f,rfl,hb,ha,c0,c1,bp,bq⟩:=four_at W.out.l ba
    have d0:=(au.out.cell (p:=⟨b,o+k * 4,none⟩) (by simp only; omega)).trans c0
    have aO:=Lh ha
    have b9:k < c:=by have:=W.out.l.cap; have:n≤c:=this; omega
    clear c0 c1 bp bq ha
    by_cases hx:x < id
    ·have e1:decide (x < id)=true:=decide_eq_true hx
     have bj:=Lh (take_lt aW.out aO.out hx)
     clear hx
     go_wp2_with fail
     go_roundw
     case rel=>exact ⟨k+1,by omega,by go_num,bj,by trivial⟩
     case measure=>simp [intOf]; omega
    ·have e1:decide (x < id)=false:=decide_eq_false hx
     have an:Hid (∀ a∈D.drop k,id < a.1):=Lh (ax.out.rest (fun a ha=>by
      have h9:=aO.out.symm.trans ha
      injection h9 with h9
      subst h9
      have:=bn.out _ (List.mem_of_getElem? aO.out)
      have h8:x≠id:=this
      show id < x
      omega))
     clear hx
     go_wp2_with fail
     go_meet
     case rel=>exact ⟨k,hk,rfl,aW,an,rfl⟩
   ·have an:Hid (∀ a∈D.drop k,id < a.1):=Lh (fun a ha=>by
     rw [List.drop_of_length_le (by have:=aP.out; omega)] at ha; cases ha)
    go_wp2_with fail
    go_meet
    case rel=>exact ⟨k,hk,rfl,aW,an,rfl⟩
 case rest=>
  obtain ⟨k,hk,rfl,b3,an,rfl⟩:=hcut
  obtain ⟨Y,aM⟩:∃ X,D.take k ++ (id,(⟨th,now,false⟩:Ls)) :: D.drop k=X:=⟨_,rfl⟩
  have ay:Hid (Sd Y):=Lh (by rw [← aM]; exact ax.out.put _ b3.out an.out)
  have aq:Hid (((id,(⟨th,now,false⟩:Ls)) :: D).Perm Y):=Lh (by rw [← aM]; exact put_perm D k _)
  have bi:Hid (flat enc4 (D.take k) ++ flat enc4 [(id,(⟨th,now,false⟩:Ls))] = flat enc4 (D.take k ++ [(id,(⟨th,now,false⟩:Ls))])):=Lh (flat_append _ _).symm
  have b0:Hid (flat enc4 (D.take k ++ [(id,(⟨th,now,false⟩:Ls))]) ++ flat enc4 (D.drop k)=flat enc4 Y):=Lh (by rw [← flat_append,← aM,List.append_assoc]; rfl)
  have az:Hid (Y.length=n+1):=Lh (by have h1:=aq.out.length_eq; have h2:=aP.out; simp at h1; omega)
  have b2:Hid (k+1+(n - k)=n+1):=Lh (by omega)
  clear aM b3 an
  go_upto_region 11 with (fail)
  go_cut [11] from 47 to 52 (fun bA wx=>∃ (A5:Option Addr) (c5:Nat),bA=.slice A5 k c5∧Hid (wx.ownsRow (w.heap.size+2) 266 4 (.slice A5 k c5) k (flat enc4 (D.take k)))∧Hid (Below (w.heap.size+2) w2 wx)∧w2.heap.size≤wx.heap.size)
  case first=>
   rcases W.out.fl with ⟨hA,hc⟩ | ⟨b,o,hA⟩
   ·have hA:A=none:=hA
    have hc:c=0:=hc
    subst hA hc
    obtain rfl:n=0:=by have:n≤0:=W.out.l.cap; omega
    obtain rfl:k=0:=by omega
    have RF:Hid (Rl w2 w2.heap.size none 0 0 (D.take 0)):=Lh (by rw [List.take_zero]; exact Rs.nil_)
    go_wp2_with (
     at_builtin
     refine append_rs enc4_len rfl _ _ 35 rfl (w.heap.size+2) 266 i0 _ 32 Tryz.underlying35 hi aF aG aH rfl (by decide) (.slice none 0 0) 0 [] rfl (World.ownsRow_nil _ _ _ _) _ none 0 0 (D.take 0) rfl RF.out enc4_one 0 (Nat.zero_add _) (flat enc4 (D.take 0)) rfl (by unfold maxLen; omega) (by omega) (by omega) ?_
     intro A5 c5 w5 aD al aT
     have B5:=Lh ((Below.refl (w.heap.size+2) w2).grown al (by omega) (fun j hj=>by cases hj))
     have ao:=Lh aD
     have aN:w2.heap.size≤w5.heap.size:=al.size
     clear aD al aT)
    go_meet
    case rel=>exact ⟨A5,c5,rfl,ao,B5,aN⟩
   ·have hA:A=some ⟨b,o,none⟩:=hA
    subst hA
    have RF:Hid (Rl w2 w2.heap.size (some ⟨b,o,none⟩) k c (D.take k)):=Lh ((W.out.later au.out).l.front (i:=k) hk)
    have bu:n≤c:=W.out.l.cap
    have b9:k≤c:=by omega
    go_wp2_with (
     at_builtin
     refine append_rs enc4_len rfl _ _ 35 rfl (w.heap.size+2) 266 i0 _ 32 Tryz.underlying35 hi aF aG aH rfl (by decide) (.slice none 0 0) 0 [] rfl (World.ownsRow_nil _ _ _ _) _ (some ⟨b,o,none⟩) k c (D.take k) rfl RF.out enc4_one k (Nat.zero_add _) (flat enc4 (D.take k)) rfl (by unfold maxLen; omega) (by omega) (by omega) ?_
     intro A5 c5 w5 aD al aT
     have B5:=Lh ((Below.refl (w.heap.size+2) w2).grown al (by omega) (fun j hj=>by cases hj))
     have ao:=Lh aD
     have aN:w2.heap.size≤w5.heap.size:=al.size
     clear aD al aT)
    go_meet
    case rel=>exact ⟨A5,c5,rfl,ao,B5,aN⟩
  case rest=>
   obtain ⟨A5,c5,rfl,ao,B5,aN⟩:=hcut
   generalize wc=w5 at *
   have b4:=Lh (rs_one enc4_len w5 (id,(⟨th,now,false⟩:Ls)) 266 (cs:=#[.int .u64 id,.int .i64 th,.int .u64 now,.bool false]) rfl)
   have aQ:=Lh (ao.out.alloc (.cells #[.int .u64 id,.int .i64 th,.int .u64 now,.bool false] 266))
   have aZ:=Lh (B5.out.alloc (by omega) (.cells #[.int .u64 id,.int .i64 th,.int .u64 now,.bool false] 266))
   clear ao B5 f0 f1 f2 f3 g0 g1 g2 g3
   go_wp2_with (
    at_builtin
    refine append_rs enc4_len rfl _ _ 35 rfl (w.heap.size+2) 266 i0 _ 32 Tryz.underlying35 hi aF aG aH rfl (by decide) (.slice A5 k c5) k (flat enc4 (D.take k)) rfl aQ.out _ _ 1 1 [(id,(⟨th,now,false⟩:Ls))] rfl b4.out enc4_one (k+1) rfl (flat enc4 (D.take k ++ [(id,(⟨th,now,false⟩:Ls))])) bi.out (by unfold maxLen; omega) (by omega) (by simp; omega) ?_
    intro A6 c6 w6 bb aV bt
    refine Hid.out ?_)
   refine Lh ?_
   have B6:=Lh (aZ.out.grown aV (by simp; omega) (fun j hj=>(aQ.out.lt j hj).1))
   have bH:w.heap.size+2≤w6.heap.size:=by have:=aV.size; simp at this; omega
   have aw:=Lh bb
   have aL:=Lh (VF.out.below B6.out (by omega))
   have aS:=Lh (VR.out.below B6.out (by omega))
   have aI:=Lh (au.out.trans (B6.out.mono (by omega)))
   obtain ⟨⟨f0,f1,f2,f3⟩,g0,g1,g2,g3⟩:=aL.out
   clear bb aV bt b4 aQ aZ VF VR B6
   go_upto_region 13 with (fail)
   go_cut [] from 60 to 66 (fun wx=>∃ (z:Option Addr) (c7:Nat),Hid (V4 wx w.heap.size (.int .u64 leak) (.slice z (n+1) c7) (.slice A2 n2 c2) (.slice A3 n3 c3))∧Hid (V4 wx (w.heap.size+1) (.int .u64 0) (.slice none 0 0) (.slice none 0 0) (.slice none 0 0))∧Hid (wx.ownsRow (w.heap.size+2) 266 4 (.slice z (n+1) c7) (n+1) (flat enc4 Y))∧Hid (Below w.heap.size w wx)∧w.heap.size+2≤wx.heap.size)
   case first=>
    rcases W.out.fl with ⟨hA,hc⟩ | ⟨b,o,hA⟩
    ·have hA:A=none:=hA
     have hc:c=0:=hc
     subst hA hc
     obtain rfl:n=0:=by have:n≤0:=W.out.l.cap; omega
     obtain rfl:k=0:=by omega
     have RB:Hid (Rl w6 w6.heap.size none 0 0 (D.drop 0)):=Lh (by rw [List.drop_of_length_le (by have:=aP.out; omega)]; exact Rs.nil_)
     go_wp2_with (
      at_builtin
      refine append_rs enc4_len rfl _ _ 35 rfl (w.heap.size+2) 266 i0 _ 32 Tryz.underlying35 hi aF aG aH rfl (by decide) (.slice A6 (0+1) c6) (0+1) (flat enc4 (D.take 0 ++ [(id,(⟨th,now,false⟩:Ls))])) rfl aw.out _ none 0 0 (D.drop 0) rfl RB.out enc4_one (0+1) b2.out (flat enc4 Y) b0.out (by unfold maxLen; omega) (by omega) (by omega) ?_
      intro z c7 w7 aE aC aU
      have aa:Below (w.heap.size+2) w6 w7:=(Below.refl _ _).grown aC (by omega) (fun j hj=>(aw.out.lt j hj).1)
      have a5:=Lh aE
      have ae:=Lh (aI.out.trans (aa.mono (by omega)))
      obtain ⟨⟨f0,f1,f2,f3⟩,g0,g1,g2,g3⟩:=aL.out.below aa (by omega)
      have ah:=Lh (aS.out.below aa (by omega))
      have bc:w.heap.size+2≤w7.heap.size:=by have:=aa.size; omega
      clear aa aE aC aU)
     go_meet
     case rel=>
      refine ⟨z,c7,?_,?_,?_,?_,by simp; omega⟩
      ·exact Lh ⟨⟨by go_simp,by go_simp,by go_simp,by go_simp⟩,by go_simp,by go_simp,by go_simp,by go_simp⟩
      ·refine Lh ?_
       obtain ⟨⟨r0,r1,r2,r3⟩,z0,z1,z2,z3⟩:=ah.out
       exact ⟨⟨by go_simp,by go_simp,by go_simp,by go_simp⟩,by go_simp,by go_simp,by go_simp,by go_simp⟩
      ·refine Lh (Hi.own_same a5.out (fun u G=>?_))
       have hg:=(a5.out.lt u G).1
       rw [heap_setCell_other _ _ u _ (fun e=>by have e:u=w.heap.size:=e; omega)]
      ·exact Lh (ae.out.setCell (Nat.le_refl _) _)
    ·have hA:A=some ⟨b,o,none⟩:=hA
     subst hA
     have bu:n≤c:=W.out.l.cap
     have b9:k≤c:=by omega
     have bI:c≤9223372036854775807:=W.out.l.top
     obtain ⟨A4,br⟩:∃ A4:Option Addr,(if c=k then some (⟨b,o,none⟩:Addr) else some ⟨b,o+k * 4,none⟩)=A4:=⟨_,rfl⟩
     have b7:Rl w w.heap.size (some ⟨b,o,none⟩) n c D:=W.out.l
     have b5:Rl w w.heap.size A4 (n - k) (c - k) (D.drop k):=b7.back (i:=k) hk rfl (fun ba=>by rw [← br,if_neg (by omega)])
     have RB:=Lh (b5.later aI.out)
     clear b7 b5
     go_wp2_with (
      at_builtin
      refine append_rs enc4_len rfl _ _ 35 rfl (w.heap.size+2) 266 i0 _ 32 Tryz.underlying35 hi aF aG aH rfl (by decide) (.slice A6 (k+1) c6) (k+1) (flat enc4 (D.take k ++ [(id,(⟨th,now,false⟩:Ls))])) rfl aw.out _ A4 (n - k) (c - k) (D.drop k) rfl RB.out enc4_one (n+1) b2.out (flat enc4 Y) b0.out (by unfold maxLen; omega) (by omega) (by omega) ?_
      intro z c7 w7 aE aC aU
      have aa:Below (w.heap.size+2) w6 w7:=(Below.refl _ _).grown aC (by omega) (fun j hj=>(aw.out.lt j hj).1)
      have a5:=Lh aE
      have ae:=Lh (aI.out.trans (aa.mono (by omega)))
      obtain ⟨⟨f0,f1,f2,f3⟩,g0,g1,g2,g3⟩:=aL.out.below aa (by omega)
      have ah:=Lh (aS.out.below aa (by omega))
      have bc:w.heap.size+2≤w7.heap.size:=by have:=aa.size; omega
      clear aa aE aC aU)
     go_meet
     case rel=>
      refine ⟨z,c7,?_,?_,?_,?_,by simp; omega⟩
      ·exact Lh ⟨⟨by go_simp,by go_simp,by go_simp,by go_simp⟩,by go_simp,by go_simp,by go_simp,by go_simp⟩
      ·refine Lh ?_
       obtain ⟨⟨r0,r1,r2,r3⟩,z0,z1,z2,z3⟩:=ah.out
       exact ⟨⟨by go_simp,by go_simp,by go_simp,by go_simp⟩,by go_simp,by go_simp,by go_simp,by go_simp⟩
      ·refine Lh (Hi.own_same a5.out (fun u G=>?_))
       have hg:=(a5.out.lt u G).1
       rw [heap_setCell_other _ _ u _ (fun e=>by have e:u=w.heap.size:=e; omega)]
      ·exact Lh (ae.out.setCell (Nat.le_refl _) _)
   case rest=>
    obtain ⟨z,c7,aA,ah,a5,ae,bc⟩:=hcut
    clear aL aS aw aI f0 f1 f2 f3 g0 g1 g2 g3
    generalize wc=w7 at *
    obtain ⟨⟨f0,f1,f2,f3⟩,g0,g1,g2,g3⟩:=aA.out
    by_cases h0:leak=0
    ·have q5:decide (0 < leak)=false:=decide_eq_false (by omega)
     have eT:bT leak D T id th now=T:=by unfold bT; rw [if_neg (fun h=>h.2 h0)]
     have af:=Lh eT
     obtain ⟨⟨r0,r1,r2,r3⟩,z0,z1,z2,z3⟩:=ah.out
     clear h0 eT
     go_wp2_with fail
     have J:Below w.heap.size w ((((w7.setCell ⟨w.heap.size+1,0,none⟩ (.int .u64 leak)).setCell ⟨w.heap.size+1,1,none⟩ (.slice z (n+1) c7)).setCell ⟨w.heap.size+1,2,none⟩ (.slice A2 n2 c2)).setCell ⟨w.heap.size+1,3,none⟩ (.slice A3 n3 c3)):=by
      repeat' (first | exact ae.out | apply Below.setCell | apply below_drewN | apply Below.drew | apply Below.alloc)
      all_goals (first | (simp; done) | (simp; omega))
     have a0:((((w7.setCell ⟨w.heap.size+1,0,none⟩ (.int .u64 leak)).setCell ⟨w.heap.size+1,1,none⟩ (.slice z (n+1) c7)).setCell ⟨w.heap.size+1,2,none⟩ (.slice A2 n2 c2)).setCell ⟨w.heap.size+1,3,none⟩ (.slice A3 n3 c3)).ownsRow (w.heap.size+2) 266 4 (.slice z (n+1) c7) (n+1) (flat enc4 Y):=by
      refine Hi.own_same a5.out (fun u G=>?_)
      have hg:=(a5.out.lt u G).1
      rw [heap_setCell_other _ _ u _ (fun e=>by have e:u=w.heap.size+1:=e; omega),heap_setCell_other _ _ u _ (fun e=>by have e:u=w.heap.size+1:=e; omega),heap_setCell_other _ _ u _ (fun e=>by have e:u=w.heap.size+1:=e; omega),heap_setCell_other _ _ u _ (fun e=>by have e:u=w.heap.size+1:=e; omega)]
     have a4:=W.out.later J
     refine bodyPost_ret (v:=.tuple #[.agg #[.int .u64 leak,.slice z (n+1) c7,.slice A2 n2 c2,.slice A3 n3 c3],.int .i64 0]) (by simp [results,Tryz.results136,go_sem,r0,r1,r2,r3]) rfl ⟨⟨z,n+1,c7,A2,n2,c2,A3,n3,c3⟩,Y,rfl,aq.out,ay.out,by rw [af.out]; exact ⟨Rs.own_rs enc4_len az.out a0,a4.m,a4.t,a4.fm,Wl.own_fm a0,Kn.own a0 (fun g hg=>ag.out g (by omega)),a4.km,a4.kt⟩,J⟩
    ·have q5:decide (0 < leak)=true:=decide_eq_true (by omega)
     have av:Hid (¬ 1024≤(Wl.wo T id).length):=Lh (by have:=Wl.wo_len T id; have:=bo.out; omega)
     have aK:=Lh (W.out.t.below ae.out)
     have eT:bT leak D T id th now=Wl.ins (id,Wl.cut (cAdd now leak)) (Wl.wo T id):=by
      unfold bT; rw [if_pos ⟨bh.out,h0⟩]; unfold Wl.arm; rw [if_neg (by unfold Wl.full; rw [decide_eq_false av.out]; decide)]
     have af:=Lh eT
     clear h0 eT
     by_cases a1:now≤1152921504606846976
     ·have q6:decide (now≤1152921504606846976)=true:=decide_eq_true a1
      by_cases a2:leak≤1152921504606846976
      ·have q7:decide (leak≤1152921504606846976)=true:=decide_eq_true a2
       have bJ:IntKind.u64.wrap (now+leak)=now+leak:=by rw [IntKind.wrap_u64]; omega
       by_cases a3:now+leak≤1152921504606846976
       ·have q8:decide (now+leak≤1152921504606846976)=true:=decide_eq_true a3
        have ec:cAdd now leak=now+leak:=by unfold cAdd; rw [if_pos a3]
        rw [ec] at af
        clear ec
        go_wp2_with fail
        refine (Wl.tarm_room A3 n3 c3 w.heap.size T id (now+leak) w7 aK.out (by omega) (by omega) aJ.out ⟨by omega,by omega⟩ av.out).mono ?_
        rintro e Q ⟨F,c9,rfl,a6,I⟩
        obtain ⟨q,hq⟩:∃ q,(Wl.wo T id).length=q:=⟨_,rfl⟩
        rw [hq] at a6 ⊢
        have a9:=Lh a6
        have HQ:=Lh hq
        have ai:=Lh (ae.out.trans (I.mono (by omega)))
        have a8:Hid (Q.ownsRow (w.heap.size+2) 266 4 (.slice z (n+1) c7) (n+1) (flat enc4 Y)):=Lh (Hi.own_same a5.out (fun u G=>I.block u (a5.out.lt u G).2))
        obtain ⟨⟨f0,f1,f2,f3⟩,g0,g1,g2,g3⟩:=aA.out.below I (by omega)
        obtain ⟨⟨r0,r1,r2,r3⟩,z0,z1,z2,z3⟩:=ah.out.below I (by omega)
        have aY:w7.heap.size≤Q.heap.size:=I.size
        clear I a6 hq
        go_wp2_with fail
        have J:Below w.heap.size w (((((Q.setCell ⟨w.heap.size,3,none⟩ (.slice F (q+1) c9)).setCell ⟨w.heap.size+1,0,none⟩ (.int .u64 leak)).setCell ⟨w.heap.size+1,1,none⟩ (.slice z (n+1) c7)).setCell ⟨w.heap.size+1,2,none⟩ (.slice A2 n2 c2)).setCell ⟨w.heap.size+1,3,none⟩ (.slice F (q+1) c9)):=by
         repeat' (first | exact ai.out | apply Below.setCell | apply below_drewN | apply Below.drew | apply Below.alloc)
         all_goals (first | (simp; done) | (simp; omega))
        have a0:(((((Q.setCell ⟨w.heap.size,3,none⟩ (.slice F (q+1) c9)).setCell ⟨w.heap.size+1,0,none⟩ (.int .u64 leak)).setCell ⟨w.heap.size+1,1,none⟩ (.slice z (n+1) c7)).setCell ⟨w.heap.size+1,2,none⟩ (.slice A2 n2 c2)).setCell ⟨w.heap.size+1,3,none⟩ (.slice F (q+1) c9)).ownsRow (w.heap.size+2) 266 4 (.slice z (n+1) c7) (n+1) (flat enc4 Y):=by
         refine Hi.own_same a8.out (fun u G=>?_)
         have hg:=(a8.out.lt u G).1
         rw [heap_setCell_other _ _ u _ (fun e=>by have e:u=w.heap.size+1:=e; omega),heap_setCell_other _ _ u _ (fun e=>by have e:u=w.heap.size+1:=e; omega),heap_setCell_other _ _ u _ (fun e=>by have e:u=w.heap.size+1:=e; omega),heap_setCell_other _ _ u _ (fun e=>by have e:u=w.heap.size+1:=e; omega),heap_setCell_other _ _ u _ (fun e=>by have e:u=w.heap.size:=e; omega)]
        have a7:(((((Q.setCell ⟨w.heap.size,3,none⟩ (.slice F (q+1) c9)).setCell ⟨w.heap.size+1,0,none⟩ (.int .u64 leak)).setCell ⟨w.heap.size+1,1,none⟩ (.slice z (n+1) c7)).setCell ⟨w.heap.size+1,2,none⟩ (.slice A2 n2 c2)).setCell ⟨w.heap.size+1,3,none⟩ (.slice F (q+1) c9)).ownsRow w7.heap.size 287 2 (.slice F (q+1) c9) (q+1) (flat Wl.enc2 (Wl.ins (id,Wl.cut (now+leak)) (Wl.wo T id))):=by
         refine Hi.own_same a9.out (fun u G=>?_)
         have hg:=(a9.out.lt u G).1
         rw [heap_setCell_other _ _ u _ (fun e=>by have e:u=w.heap.size+1:=e; omega),heap_setCell_other _ _ u _ (fun e=>by have e:u=w.heap.size+1:=e; omega),heap_setCell_other _ _ u _ (fun e=>by have e:u=w.heap.size+1:=e; omega),heap_setCell_other _ _ u _ (fun e=>by have e:u=w.heap.size+1:=e; omega),heap_setCell_other _ _ u _ (fun e=>by have e:u=w.heap.size:=e; omega)]
        have a4:=W.out.later J
        refine bodyPost_ret (v:=.tuple #[.agg #[.int .u64 leak,.slice z (n+1) c7,.slice A2 n2 c2,.slice F (q+1) c9],.int .i64 0]) (by simp [results,Tryz.results136,go_sem,r0,r1,r2,r3]) rfl ⟨⟨z,n+1,c7,A2,n2,c2,F,q+1,c9⟩,Y,rfl,aq.out,ay.out,by rw [af.out]; exact ⟨Rs.own_rs enc4_len az.out a0,a4.m,Rs.own_rs Wl.enc2_len (by rw [Wl.ins_len,HQ.out]) a7,Wl.own_fm a7,Wl.own_fm a0,Kn.own a0 (fun g hg=>ag.out g (by omega)),a4.km,Kn.own a7 (fun g hg=>ag.out g (by omega))⟩,J⟩
       ·have q8:decide (now+leak≤1152921504606846976)=false:=decide_eq_false a3
        have ec:cAdd now leak=1152921504606846976:=by unfold cAdd; rw [if_neg a3]
        rw [ec] at af
        clear ec
        go_wp2_with fail
        refine (Wl.tarm_room A3 n3 c3 w.heap.size T id 1152921504606846976 w7 aK.out (by omega) (by omega) aJ.out ⟨by omega,by omega⟩ av.out).mono ?_
        rintro e Q ⟨F,c9,rfl,a6,I⟩
        obtain ⟨q,hq⟩:∃ q,(Wl.wo T id).length=q:=⟨_,rfl⟩
        rw [hq] at a6 ⊢
        have a9:=Lh a6
        have HQ:=Lh hq
        have ai:=Lh (ae.out.trans (I.mono (by omega)))
        have a8:Hid (Q.ownsRow (w.heap.size+2) 266 4 (.slice z (n+1) c7) (n+1) (flat enc4 Y)):=Lh (Hi.own_same a5.out (fun u G=>I.block u (a5.out.lt u G).2))
        obtain ⟨⟨f0,f1,f2,f3⟩,g0,g1,g2,g3⟩:=aA.out.below I (by omega)
        obtain ⟨⟨r0,r1,r2,r3⟩,z0,z1,z2,z3⟩:=ah.out.below I (by omega)
        have aY:w7.heap.size≤Q.heap.size:=I.size
        clear I a6 hq
        go_wp2_with fail
        have J:Below w.heap.size w (((((Q.setCell ⟨w.heap.size,3,none⟩ (.slice F (q+1) c9)).setCell ⟨w.heap.size+1,0,none⟩ (.int .u64 leak)).setCell ⟨w.heap.size+1,1,none⟩ (.slice z (n+1) c7)).setCell ⟨w.heap.size+1,2,none⟩ (.slice A2 n2 c2)).setCell ⟨w.heap.size+1,3,none⟩ (.slice F (q+1) c9)):=by
         repeat' (first | exact ai.out | apply Below.setCell | apply below_drewN | apply Below.drew | apply Below.alloc)
         all_goals (first | (simp; done) | (simp; omega))
        have a0:(((((Q.setCell ⟨w.heap.size,3,none⟩ (.slice F (q+1) c9)).setCell ⟨w.heap.size+1,0,none⟩ (.int .u64 leak)).setCell ⟨w.heap.size+1,1,none⟩ (.slice z (n+1) c7)).setCell ⟨w.heap.size+1,2,none⟩ (.slice A2 n2 c2)).setCell ⟨w.heap.size+1,3,none⟩ (.slice F (q+1) c9)).ownsRow (w.heap.size+2) 266 4 (.slice z (n+1) c7) (n+1) (flat enc4 Y):=by
         refine Hi.own_same a8.out (fun u G=>?_)
         have hg:=(a8.out.lt u G).1
         rw [heap_setCell_other _ _ u _ (fun e=>by have e:u=w.heap.size+1:=e; omega),heap_setCell_other _ _ u _ (fun e=>by have e:u=w.heap.size+1:=e; omega),heap_setCell_other _ _ u _ (fun e=>by have e:u=w.heap.size+1:=e; omega),heap_setCell_other _ _ u _ (fun e=>by have e:u=w.heap.size+1:=e; omega),heap_setCell_other _ _ u _ (fun e=>by have e:u=w.heap.size:=e; omega)]
        have a7:(((((Q.setCell ⟨w.heap.size,3,none⟩ (.slice F (q+1) c9)).setCell ⟨w.heap.size+1,0,none⟩ (.int .u64 leak)).setCell ⟨w.heap.size+1,1,none⟩ (.slice z (n+1) c7)).setCell ⟨w.heap.size+1,2,none⟩ (.slice A2 n2 c2)).setCell ⟨w.heap.size+1,3,none⟩ (.slice F (q+1) c9)).ownsRow w7.heap.size 287 2 (.slice F (q+1) c9) (q+1) (flat Wl.enc2 (Wl.ins (id,Wl.cut 1152921504606846976) (Wl.wo T id))):=by
         refine Hi.own_same a9.out (fun u G=>?_)
         have hg:=(a9.out.lt u G).1
         rw [heap_setCell_other _ _ u _ (fun e=>by have e:u=w.heap.size+1:=e; omega),heap_setCell_other _ _ u _ (fun e=>by have e:u=w.heap.size+1:=e; omega),heap_setCell_other _ _ u _ (fun e=>by have e:u=w.heap.size+1:=e; omega),heap_setCell_other _ _ u _ (fun e=>by have e:u=w.heap.size+1:=e; omega),heap_setCell_other _ _ u _ (fun e=>by have e:u=w.heap.size:=e; omega)]
        have a4:=W.out.later J
        refine bodyPost_ret (v:=.tuple #[.agg #[.int .u64 leak,.slice z (n+1) c7,.slice A2 n2 c2,.slice F (q+1) c9],.int .i64 0]) (by simp [results,Tryz.results136,go_sem,r0,r1,r2,r3]) rfl ⟨⟨z,n+1,c7,A2,n2,c2,F,q+1,c9⟩,Y,rfl,aq.out,ay.out,by rw [af.out]; exact ⟨Rs.own_rs enc4_len az.out a0,a4.m,Rs.own_rs Wl.enc2_len (by rw [Wl.ins_len,HQ.out]) a7,Wl.own_fm a7,Wl.own_fm a0,Kn.own a0 (fun g hg=>ag.out g (by omega)),a4.km,Kn.own a7 (fun g hg=>ag.out g (by omega))⟩,J⟩
      ·have q7:decide (leak≤1152921504606846976)=false:=decide_eq_false a2
       have ec:cAdd now leak=1152921504606846976:=by unfold cAdd; rw [if_neg (by omega)]
       rw [ec] at af
       clear ec
       go_wp2_with fail
       refine (Wl.tarm_room A3 n3 c3 w.heap.size T id 1152921504606846976 w7 aK.out (by omega) (by omega) aJ.out ⟨by omega,by omega⟩ av.out).mono ?_
       rintro e Q ⟨F,c9,rfl,a6,I⟩
       obtain ⟨q,hq⟩:∃ q,(Wl.wo T id).length=q:=⟨_,rfl⟩
       rw [hq] at a6 ⊢
       have a9:=Lh a6
       have HQ:=Lh hq
       have ai:=Lh (ae.out.trans (I.mono (by omega)))
       have a8:Hid (Q.ownsRow (w.heap.size+2) 266 4 (.slice z (n+1) c7) (n+1) (flat enc4 Y)):=Lh (Hi.own_same a5.out (fun u G=>I.block u (a5.out.lt u G).2))
       obtain ⟨⟨f0,f1,f2,f3⟩,g0,g1,g2,g3⟩:=aA.out.below I (by omega)
       obtain ⟨⟨r0,r1,r2,r3⟩,z0,z1,z2,z3⟩:=ah.out.below I (by omega)
       have aY:w7.heap.size≤Q.heap.size:=I.size
       clear I a6 hq
       go_wp2_with fail
       have J:Below w.heap.size w (((((Q.setCell ⟨w.heap.size,3,none⟩ (.slice F (q+1) c9)).setCell ⟨w.heap.size+1,0,none⟩ (.int .u64 leak)).setCell ⟨w.heap.size+1,1,none⟩ (.slice z (n+1) c7)).setCell ⟨w.heap.size+1,2,none⟩ (.slice A2 n2 c2)).setCell ⟨w.heap.size+1,3,none⟩ (.slice F (q+1) c9)):=by
        repeat' (first | exact ai.out | apply Below.setCell | apply below_drewN | apply Below.drew | apply Below.alloc)
        all_goals (first | (simp; done) | (simp; omega))
       have a0:(((((Q.setCell ⟨w.heap.size,3,none⟩ (.slice F (q+1) c9)).setCell ⟨w.heap.size+1,0,none⟩ (.int .u64 leak)).setCell ⟨w.heap.size+1,1,none⟩ (.slice z (n+1) c7)).setCell ⟨w.heap.size+1,2,none⟩ (.slice A2 n2 c2)).setCell ⟨w.heap.size+1,3,none⟩ (.slice F (q+1) c9)).ownsRow (w.heap.size+2) 266 4 (.slice z (n+1) c7) (n+1) (flat enc4 Y):=by
        refine Hi.own_same a8.out (fun u G=>?_)
        have hg:=(a8.out.lt u G).1
        rw [heap_setCell_other _ _ u _ (fun e=>by have e:u=w.heap.size+1:=e; omega),heap_setCell_other _ _ u _ (fun e=>by have e:u=w.heap.size+1:=e; omega),heap_setCell_other _ _ u _ (fun e=>by have e:u=w.heap.size+1:=e; omega),heap_setCell_other _ _ u _ (fun e=>by have e:u=w.heap.size+1:=e; omega),heap_setCell_other _ _ u _ (fun e=>by have e:u=w.heap.size:=e; omega)]
       have a7:(((((Q.setCell ⟨w.heap.size,3,none⟩ (.slice F (q+1) c9)).setCell ⟨w.heap.size+1,0,none⟩ (.int .u64 leak)).setCell ⟨w.heap.size+1,1,none⟩ (.slice z (n+1) c7)).setCell ⟨w.heap.size+1,2,none⟩ (.slice A2 n2 c2)).setCell ⟨w.heap.size+1,3,none⟩ (.slice F (q+1) c9)).ownsRow w7.heap.size 287 2 (.slice F (q+1) c9) (q+1) (flat Wl.enc2 (Wl.ins (id,Wl.cut 1152921504606846976) (Wl.wo T id))):=by
        refine Hi.own_same a9.out (fun u G=>?_)
        have hg:=(a9.out.lt u G).1
        rw [heap_setCell_other _ _ u _ (fun e=>by have e:u=w.heap.size+1:=e; omega),heap_setCell_other _ _ u _ (fun e=>by have e:u=w.heap.size+1:=e; omega),heap_setCell_other _ _ u _ (fun e=>by have e:u=w.heap.size+1:=e; omega),heap_setCell_other _ _ u _ (fun e=>by have e:u=w.heap.size+1:=e; omega),heap_setCell_other _ _ u _ (fun e=>by have e:u=w.heap.size:=e; omega)]
       have a4:=W.out.later J
       refine bodyPost_ret (v:=.tuple #[.agg #[.int .u64 leak,.slice z (n+1) c7,.slice A2 n2 c2,.slice F (q+1) c9],.int .i64 0]) (by simp [results,Tryz.results136,go_sem,r0,r1,r2,r3]) rfl ⟨⟨z,n+1,c7,A2,n2,c2,F,q+1,c9⟩,Y,rfl,aq.out,ay.out,by rw [af.out]; exact ⟨Rs.own_rs enc4_len az.out a0,a4.m,Rs.own_rs Wl.enc2_len (by rw [Wl.ins_len,HQ.out]) a7,Wl.own_fm a7,Wl.own_fm a0,Kn.own a0 (fun g hg=>ag.out g (by omega)),a4.km,Kn.own a7 (fun g hg=>ag.out g (by omega))⟩,J⟩
     ·have q6:decide (now≤1152921504606846976)=false:=decide_eq_false a1
      have ec:cAdd now leak=1152921504606846976:=by unfold cAdd; rw [if_neg (by omega)]
      rw [ec] at af
      clear ec
      go_wp2_with fail
      refine (Wl.tarm_room A3 n3 c3 w.heap.size T id 1152921504606846976 w7 aK.out (by omega) (by omega) aJ.out ⟨by omega,by omega⟩ av.out).mono ?_
      rintro e Q ⟨F,c9,rfl,a6,I⟩
      obtain ⟨q,hq⟩:∃ q,(Wl.wo T id).length=q:=⟨_,rfl⟩
      rw [hq] at a6 ⊢
      have a9:=Lh a6
      have HQ:=Lh hq
      have ai:=Lh (ae.out.trans (I.mono (by omega)))
      have a8:Hid (Q.ownsRow (w.heap.size+2) 266 4 (.slice z (n+1) c7) (n+1) (flat enc4 Y)):=Lh (Hi.own_same a5.out (fun u G=>I.block u (a5.out.lt u G).2))
      obtain ⟨⟨f0,f1,f2,f3⟩,g0,g1,g2,g3⟩:=aA.out.below I (by omega)
      obtain ⟨⟨r0,r1,r2,r3⟩,z0,z1,z2,z3⟩:=ah.out.below I (by omega)
      have aY:w7.heap.size≤Q.heap.size:=I.size
      clear I a6 hq
      go_wp2_with fail
      have J:Below w.heap.size w (((((Q.setCell ⟨w.heap.size,3,none⟩ (.slice F (q+1) c9)).setCell ⟨w.heap.size+1,0,none⟩ (.int .u64 leak)).setCell ⟨w.heap.size+1,1,none⟩ (.slice z (n+1) c7)).setCell ⟨w.heap.size+1,2,none⟩ (.slice A2 n2 c2)).setCell ⟨w.heap.size+1,3,none⟩ (.slice F (q+1) c9)):=by
       repeat' (first | exact ai.out | apply Below.setCell | apply below_drewN | apply Below.drew | apply Below.alloc)
       all_goals (first | (simp; done) | (simp; omega))
      have a0:(((((Q.setCell ⟨w.heap.size,3,none⟩ (.slice F (q+1) c9)).setCell ⟨w.heap.size+1,0,none⟩ (.int .u64 leak)).setCell ⟨w.heap.size+1,1,none⟩ (.slice z (n+1) c7)).setCell ⟨w.heap.size+1,2,none⟩ (.slice A2 n2 c2)).setCell ⟨w.heap.size+1,3,none⟩ (.slice F (q+1) c9)).ownsRow (w.heap.size+2) 266 4 (.slice z (n+1) c7) (n+1) (flat enc4 Y):=by
       refine Hi.own_same a8.out (fun u G=>?_)
       have hg:=(a8.out.lt u G).1
       rw [heap_setCell_other _ _ u _ (fun e=>by have e:u=w.heap.size+1:=e; omega),heap_setCell_other _ _ u _ (fun e=>by have e:u=w.heap.size+1:=e; omega),heap_setCell_other _ _ u _ (fun e=>by have e:u=w.heap.size+1:=e; omega),heap_setCell_other _ _ u _ (fun e=>by have e:u=w.heap.size+1:=e; omega),heap_setCell_other _ _ u _ (fun e=>by have e:u=w.heap.size:=e; omega)]
      have a7:(((((Q.setCell ⟨w.heap.size,3,none⟩ (.slice F (q+1) c9)).setCell ⟨w.heap.size+1,0,none⟩ (.int .u64 leak)).setCell ⟨w.heap.size+1,1,none⟩ (.slice z (n+1) c7)).setCell ⟨w.heap.size+1,2,none⟩ (.slice A2 n2 c2)).setCell ⟨w.heap.size+1,3,none⟩ (.slice F (q+1) c9)).ownsRow w7.heap.size 287 2 (.slice F (q+1) c9) (q+1) (flat Wl.enc2 (Wl.ins (id,Wl.cut 1152921504606846976) (Wl.wo T id))):=by
       refine Hi.own_same a9.out (fun u G=>?_)
       have hg:=(a9.out.lt u G).1
       rw [heap_setCell_other _ _ u _ (fun e=>by have e:u=w.heap.size+1:=e; omega),heap_setCell_other _ _ u _ (fun e=>by have e:u=w.heap.size+1:=e; omega),heap_setCell_other _ _ u _ (fun e=>by have e:u=w.heap.size+1:=e; omega),heap_setCell_other _ _ u _ (fun e=>by have e:u=w.heap.size+1:=e; omega),heap_setCell_other _ _ u _ (fun e=>by have e:u=w.heap.size:=e; omega)]
      have a4:=W.out.later J
      refine bodyPost_ret (v:=.tuple #[.agg #[.int .u64 leak,.slice z (n+1) c7,.slice A2 n2 c2,.slice F (q+1) c9],.int .i64 0]) (by simp [results,Tryz.results136,go_sem,r0,r1,r2,r3]) rfl ⟨⟨z,n+1,c7,A2,n2,c2,F,q+1,c9⟩,Y,rfl,aq.out,ay.out,by rw [af.out]; exact ⟨Rs.own_rs enc4_len az.out a0,a4.m,Rs.own_rs Wl.enc2_len (by rw [Wl.ins_len,HQ.out]) a7,Wl.own_fm a7,Wl.own_fm a0,Kn.own a0 (fun g hg=>ag.out g (by omega)),a4.km,Kn.own a7 (fun g hg=>ag.out g (by omega))⟩,J⟩
end
end Go.Proofs.YtoiklelghfckgaaGreatDoor.Le
namespace Go.Proofs.YtoiklelghfckgaaGreatDoor.Le
open Go.ChangeShapes Go.WideShapes Go.ChangeAt Go.RowKit Go.Deep Go.Maps Rw Hi Mt
section
variable (leak:Int) (A A2 A3:Option Addr) (n c n2 c2 n3 c3:Nat) (D:List (Int × Ls)) (M:List Int) (T:List (Int × Int)) (w:World)
theorem rmark_any {K:Nat→Prop} (id th:Int) (h:DkK K w ⟨A,n,c,A2,n2,c2,A3,n3,c3⟩ D M T) (an:∀ g,w.heap.size≤g→K g) (aU:Nd D) (hn:n≤1000) (aS:n2≤1000) (aT:n3≤1000) :
  Calls Tryz.prog 87 #[.agg #[.int .u64 leak,.slice A n c,.slice A2 n2 c2,.slice A3 n3 c3],.int .u64 id,.int .i64 th] w fun e w'=>∃ d:Da,e=.returned (.tuple #[d.val leak,.int .i64 (wr D id th)])∧DkK K w' d D (if holds D id th=true then M.filter (· != id) ++ [id] else M) T∧Below w.heap.size w w':=by
 obtain ⟨ad,aw,ax,av⟩:=boxes leak A A2 A3 n c n2 c2 n3 c3 w
 have HD:=Lh h
 have ag:=Lh an
 clear an
 have Y:=Lh ad
 have a6:=Lh aw
 have a7:=Lh ax
 have a0:=Lh av
 have HH:=Lh (rholds_any leak A A2 A3 n c n2 c2 n3 c3 D ((w.alloc (.cells #[.int .u64 leak,.slice A n c,.slice A2 n2 c2,.slice A3 n3 c3] 38)).alloc (.cells #[.int .u64 0,.slice none 0 0,.slice none 0 0,.slice none 0 0] 38)) id th (h.l.later ad) (by omega))
 have aB:Hid (D.length=n):=Lh h.l.len
 have aC:Hid (M.length=n2):=Lh h.m.len
 have aP:Hid (T.length=n3):=Lh h.t.len
 clear h ad aw ax av
 obtain ⟨i0,hi,aL,aM,aN⟩:=info_parts info_u64'
 unfold wr
 by_cases G:holds D id th=true
 ·rw [if_pos G,if_pos G]
  obtain ⟨k,y,hk,aI,ao⟩:∃ (k:Nat) (y:Ls),D[k]? = some (id,y)∧(∀ a∈D.take k,a.1≠id)∧hx D id th=k:=by
   rcases fx_cases D id with ⟨h1,h2⟩ | ⟨k,y,h1,h2,h3,h4⟩
   ·unfold holds at G; rw [h1] at G; cases G
   ·exact ⟨k,y,h1,h2,by unfold hx; rw [if_pos G,h3]⟩
  rw [ao] at HH
  have aR:k < n:=by have:=(List.getElem?_eq_some_iff.1 hk).1; have:=aB.out; omega
  have aQ:decide ((k:Int) < 0)=false:=decide_eq_false (by omega)
  clear hk aI ao G
  go_enter Tryz.func87,Tryz.ntmps87
  go_wp2_with fail
  refine HH.out.mono ?_
  rintro e I ⟨rfl,J⟩
  have a5:=Lh (Y.out.trans (J.mono Y.out.size))
  have VF:=Lh (a6.out.below J (by have:=a0.out; omega))
  have VR:=Lh (a7.out.below J (by have:=a0.out; omega))
  obtain ⟨⟨f0,f1,f2,f3⟩,g0,g1,g2,g3⟩:=VF.out
  have aJ:w.heap.size+2≤I.heap.size:=by have:=J.size; have:=a0.out; omega
  clear J a6 a7 Y HH
  go_wp2_with fail
  refine (rforget_any leak A A2 A3 n c n2 c2 n3 c3 D M T I id (HD.out.later a5.out) (fun g hg=>ag.out g (by omega)) (by omega)).mono ?_
  rintro e F ⟨z,c5,rfl,ac,a8,a3⟩
  obtain ⟨Q,hQ⟩:∃ Q,M.filter (· != id)=Q:=⟨_,rfl⟩
  have aF:Q.length≤1000:=by rw [← hQ]; have:=List.length_filter_le (· != id) M; have:=aC.out; omega
  rw [hQ] at ac a8 ⊢
  obtain ⟨q,hq⟩:∃ q,Q.length=q:=⟨_,rfl⟩
  rw [hq] at ac a8 aF ⊢
  have af:=Lh (a5.out.trans (a3.mono (by omega)))
  obtain ⟨⟨f0,f1,f2,f3⟩,g0,g1,g2,g3⟩:=VF.out.below a3 (by omega)
  have ak:=Lh (VR.out.below a3 (by omega))
  have aV:I.heap.size≤F.heap.size:=a3.size
  have a9:=Lh a8
  have aE:=Lh hQ
  have aO:=Lh hq
  clear a3 ac a8 hQ hq VF VR
  go_upto_region 4 with (fail)
  have aH:Below I.heap.size ((((F.setCell ⟨w.heap.size,0,none⟩ (.int .u64 leak)).setCell ⟨w.heap.size,1,none⟩ (.slice A n c)).setCell ⟨w.heap.size,2,none⟩ (.slice z q c5)).setCell ⟨w.heap.size,3,none⟩ (.slice A3 n3 c3)) ((((F.setCell ⟨w.heap.size,0,none⟩ (.int .u64 leak)).setCell ⟨w.heap.size,1,none⟩ (.slice A n c)).setCell ⟨w.heap.size,2,none⟩ (.slice z q c5)).setCell ⟨w.heap.size,3,none⟩ (.slice A3 n3 c3)):=Below.refl _ _
  have ah:Hid (((((F.setCell ⟨w.heap.size,0,none⟩ (.int .u64 leak)).setCell ⟨w.heap.size,1,none⟩ (.slice A n c)).setCell ⟨w.heap.size,2,none⟩ (.slice z q c5)).setCell ⟨w.heap.size,3,none⟩ (.slice A3 n3 c3)).ownsRow I.heap.size 25 1 (.slice z q c5) q (Q.map (Value.int .u64))):=Lh (by
   refine Hi.own_same a9.out (fun u ae=>?_)
   have hg:=(a9.out.lt u ae).1
   rw [heap_setCell_other _ _ u _ (fun e=>by have e:u=w.heap.size:=e; omega),heap_setCell_other _ _ u _ (fun e=>by have e:u=w.heap.size:=e; omega),heap_setCell_other _ _ u _ (fun e=>by have e:u=w.heap.size:=e; omega),heap_setCell_other _ _ u _ (fun e=>by have e:u=w.heap.size:=e; omega)])
  have ay:Hid (Below w.heap.size w ((((F.setCell ⟨w.heap.size,0,none⟩ (.int .u64 leak)).setCell ⟨w.heap.size,1,none⟩ (.slice A n c)).setCell ⟨w.heap.size,2,none⟩ (.slice z q c5)).setCell ⟨w.heap.size,3,none⟩ (.slice A3 n3 c3))):=Lh (by
   repeat' (first | exact af.out | apply Below.setCell | apply below_drewN | apply Below.drew | apply Below.alloc)
   all_goals (first | (simp; done) | (simp; omega)))
  have x0:((((F.setCell ⟨w.heap.size,0,none⟩ (.int .u64 leak)).setCell ⟨w.heap.size,1,none⟩ (.slice A n c)).setCell ⟨w.heap.size,2,none⟩ (.slice z q c5)).setCell ⟨w.heap.size,3,none⟩ (.slice A3 n3 c3)).cell? ⟨w.heap.size,0,none⟩=some (.int .u64 leak):=by go_simp
  have x1:((((F.setCell ⟨w.heap.size,0,none⟩ (.int .u64 leak)).setCell ⟨w.heap.size,1,none⟩ (.slice A n c)).setCell ⟨w.heap.size,2,none⟩ (.slice z q c5)).setCell ⟨w.heap.size,3,none⟩ (.slice A3 n3 c3)).cell? ⟨w.heap.size,1,none⟩=some (.slice A n c):=by go_simp
  have x2:((((F.setCell ⟨w.heap.size,0,none⟩ (.int .u64 leak)).setCell ⟨w.heap.size,1,none⟩ (.slice A n c)).setCell ⟨w.heap.size,2,none⟩ (.slice z q c5)).setCell ⟨w.heap.size,3,none⟩ (.slice A3 n3 c3)).cell? ⟨w.heap.size,2,none⟩=some (.slice z q c5):=by go_simp
  have x3:((((F.setCell ⟨w.heap.size,0,none⟩ (.int .u64 leak)).setCell ⟨w.heap.size,1,none⟩ (.slice A n c)).setCell ⟨w.heap.size,2,none⟩ (.slice z q c5)).setCell ⟨w.heap.size,3,none⟩ (.slice A3 n3 c3)).cell? ⟨w.heap.size,3,none⟩=some (.slice A3 n3 c3):=by go_simp
  have y0:((((F.setCell ⟨w.heap.size,0,none⟩ (.int .u64 leak)).setCell ⟨w.heap.size,1,none⟩ (.slice A n c)).setCell ⟨w.heap.size,2,none⟩ (.slice z q c5)).setCell ⟨w.heap.size,3,none⟩ (.slice A3 n3 c3)).frozen? ⟨w.heap.size,0,none⟩=false:=by go_simp
  have y1:((((F.setCell ⟨w.heap.size,0,none⟩ (.int .u64 leak)).setCell ⟨w.heap.size,1,none⟩ (.slice A n c)).setCell ⟨w.heap.size,2,none⟩ (.slice z q c5)).setCell ⟨w.heap.size,3,none⟩ (.slice A3 n3 c3)).frozen? ⟨w.heap.size,1,none⟩=false:=by go_simp
  have y2:((((F.setCell ⟨w.heap.size,0,none⟩ (.int .u64 leak)).setCell ⟨w.heap.size,1,none⟩ (.slice A n c)).setCell ⟨w.heap.size,2,none⟩ (.slice z q c5)).setCell ⟨w.heap.size,3,none⟩ (.slice A3 n3 c3)).frozen? ⟨w.heap.size,2,none⟩=false:=by go_simp
  have y3:((((F.setCell ⟨w.heap.size,0,none⟩ (.int .u64 leak)).setCell ⟨w.heap.size,1,none⟩ (.slice A n c)).setCell ⟨w.heap.size,2,none⟩ (.slice z q c5)).setCell ⟨w.heap.size,3,none⟩ (.slice A3 n3 c3)).frozen? ⟨w.heap.size,3,none⟩=false:=by go_simp
  have V5:Hid (V4 ((((F.setCell ⟨w.heap.size,0,none⟩ (.int .u64 leak)).setCell ⟨w.heap.size,1,none⟩ (.slice A n c)).setCell ⟨w.heap.size,2,none⟩ (.slice z q c5)).setCell ⟨w.heap.size,3,none⟩ (.slice A3 n3 c3)) w.heap.size (.int .u64 leak) (.slice A n c) (.slice z q c5) (.slice A3 n3 c3)):=Lh ⟨⟨x0,x1,x2,x3⟩,y0,y1,y2,y3⟩
  have al:Hid (V4 ((((F.setCell ⟨w.heap.size,0,none⟩ (.int .u64 leak)).setCell ⟨w.heap.size,1,none⟩ (.slice A n c)).setCell ⟨w.heap.size,2,none⟩ (.slice z q c5)).setCell ⟨w.heap.size,3,none⟩ (.slice A3 n3 c3)) (w.heap.size+1) (.int .u64 0) (.slice none 0 0) (.slice none 0 0) (.slice none 0 0)):=Lh (by
   obtain ⟨⟨r0,r1,r2,r3⟩,z0,z1,z2,z3⟩:=ak.out
   exact ⟨⟨by go_simp,by go_simp,by go_simp,by go_simp⟩,by go_simp,by go_simp,by go_simp,by go_simp⟩)
  have aK:((((F.setCell ⟨w.heap.size,0,none⟩ (.int .u64 leak)).setCell ⟨w.heap.size,1,none⟩ (.slice A n c)).setCell ⟨w.heap.size,2,none⟩ (.slice z q c5)).setCell ⟨w.heap.size,3,none⟩ (.slice A3 n3 c3)).heap.size=F.heap.size:=by simp
  clear f0 f1 f2 f3 g0 g1 g2 g3 aH ak a9 af x0 x1 x3 y0 y1 y2 y3 x2
  generalize ((((F.setCell ⟨w.heap.size,0,none⟩ (.int .u64 leak)).setCell ⟨w.heap.size,1,none⟩ (.slice A n c)).setCell ⟨w.heap.size,2,none⟩ (.slice z q c5)).setCell ⟨w.heap.size,3,none⟩ (.slice A3 n3 c3))=w5 at *
  have aW:F.heap.size≤w5.heap.size:=by omega
  clear aK
  obtain ⟨⟨x0,x1,x2,x3⟩,y0,y1,y2,y3⟩:=V5.out
  have aj:=Lh (rd_one (enc:=Value.int .u64) w5 id 25)
  have aa:=Lh (ah.out.alloc (.cells #[.int .u64 id] 25))
  have az:=Lh ((Below.refl I.heap.size w5).alloc (by omega) (.cells #[.int .u64 id] 25))
  have aD:Hid (Q.map (Value.int .u64) ++ [id].map (Value.int .u64)=(Q ++ [id]).map (Value.int .u64)):=Lh (by simp)
  go_wp2_with (
   at_builtin
   refine append_rd _ rfl _ _ 30 rfl I.heap.size 25 i0 (.int .u64 0) 8 Tryz.underlying30 hi aL aM aN rfl _ q _ rfl aa.out _ _ 1 1 [id] rfl aj.out (fun _=>rfl) (q+1) rfl _ aD.out (by unfold maxLen; omega) (by omega) (by simp; omega) ?_
   intro W c7 w7 ar aq aG
   have a2:Below I.heap.size w5 w7:=az.out.grown aq (by simp; omega) (fun j hj=>(aa.out.lt j hj).1)
   have ai:=Lh ar
   have aA:=Lh (ay.out.trans (a2.mono (by omega)))
   obtain ⟨⟨f0,f1,f2,f3⟩,g0,g1,g2,g3⟩:=V5.out.below a2 (by omega)
   obtain ⟨⟨r0,r1,r2,r3⟩,z0,z1,z2,z3⟩:=al.out.below a2 (by omega)
   have aX:I.heap.size≤w7.heap.size:=by have:=a2.size; omega
   clear a2 ar aq aG x0 x1 x2 x3 y0 y1 y2 y3 V5 al ah aa aj)
  have a4:Below w.heap.size w (((((w7.setCell ⟨w.heap.size,2,none⟩ (.slice W (q+1) c7)).setCell ⟨w.heap.size+1,0,none⟩ (.int .u64 leak)).setCell ⟨w.heap.size+1,1,none⟩ (.slice A n c)).setCell ⟨w.heap.size+1,2,none⟩ (.slice W (q+1) c7)).setCell ⟨w.heap.size+1,3,none⟩ (.slice A3 n3 c3)):=by
   repeat' (first | exact aA.out | apply Below.setCell | apply below_drewN | apply Below.drew | apply Below.alloc)
   all_goals (first | (simp; done) | (simp; omega))
  have au:(((((w7.setCell ⟨w.heap.size,2,none⟩ (.slice W (q+1) c7)).setCell ⟨w.heap.size+1,0,none⟩ (.int .u64 leak)).setCell ⟨w.heap.size+1,1,none⟩ (.slice A n c)).setCell ⟨w.heap.size+1,2,none⟩ (.slice W (q+1) c7)).setCell ⟨w.heap.size+1,3,none⟩ (.slice A3 n3 c3)).ownsRow I.heap.size 25 1 (.slice W (q+1) c7) (q+1) ((Q ++ [id]).map (Value.int .u64)):=by
   refine Hi.own_same ai.out (fun u ae=>?_)
   have hg:=(ai.out.lt u ae).1
   rw [heap_setCell_other _ _ u _ (fun e=>by have e:u=w.heap.size+1:=e; omega),heap_setCell_other _ _ u _ (fun e=>by have e:u=w.heap.size+1:=e; omega),heap_setCell_other _ _ u _ (fun e=>by have e:u=w.heap.size+1:=e; omega),heap_setCell_other _ _ u _ (fun e=>by have e:u=w.heap.size+1:=e; omega),heap_setCell_other _ _ u _ (fun e=>by have e:u=w.heap.size:=e; omega)]
  have a1:=HD.out.later a4
  refine bodyPost_ret (v:=.tuple #[.agg #[.int .u64 leak,.slice A n c,.slice W (q+1) c7,.slice A3 n3 c3],.int .i64 0]) (by simp [results,Tryz.results87,go_sem,r0,r1,r2,r3]) rfl ⟨⟨A,n,c,W,q+1,c7,A3,n3,c3⟩,rfl,⟨a1.l,by rw [aE.out]; exact Rd.own_rd au,a1.t,a1.fm,a1.fl,a1.kl,Kn.own au (fun g hg=>ag.out g (by omega)),a1.kt⟩,a4⟩
 ·rw [if_neg G,if_neg G]
  have G:holds D id th=false:=by simpa using G
  have e5:hx D id th = -1:=by unfold hx; rw [if_neg (by rw [G]; decide)]
  rw [e5] at HH
  clear e5 G
  go_enter Tryz.func87,Tryz.ntmps87
  go_wp2_with fail
  refine HH.out.mono ?_
  rintro e I ⟨rfl,J⟩
  have a5:=Lh (Y.out.trans (J.mono Y.out.size))
  obtain ⟨⟨f0,f1,f2,f3⟩,g0,g1,g2,g3⟩:=a6.out.below J (by have:=a0.out; omega)
  obtain ⟨⟨r0,r1,r2,r3⟩,z0,z1,z2,z3⟩:=a7.out.below J (by have:=a0.out; omega)
  have aJ:w.heap.size+2≤I.heap.size:=by have:=J.size; have:=a0.out; omega
  clear J a6 a7 Y HH
  go_wp2_with fail
  have a4:Below w.heap.size w ((((I.setCell ⟨w.heap.size+1,0,none⟩ (.int .u64 leak)).setCell ⟨w.heap.size+1,1,none⟩ (.slice A n c)).setCell ⟨w.heap.size+1,2,none⟩ (.slice A2 n2 c2)).setCell ⟨w.heap.size+1,3,none⟩ (.slice A3 n3 c3)):=by
   repeat' (first | exact a5.out | apply Below.setCell | apply below_drewN | apply Below.drew | apply Below.alloc)
   all_goals (first | (simp; done) | (simp; omega))
  refine bodyPost_ret (v:=.tuple #[.agg #[.int .u64 leak,.slice A n c,.slice A2 n2 c2,.slice A3 n3 c3],.int .i64 5]) (by simp [results,Tryz.results87,go_sem,r0,r1,r2,r3]) rfl ⟨⟨A,n,c,A2,n2,c2,A3,n3,c3⟩,rfl,HD.out.later a4,a4⟩
end
end Go.Proofs.YtoiklelghfckgaaGreatDoor.Le
