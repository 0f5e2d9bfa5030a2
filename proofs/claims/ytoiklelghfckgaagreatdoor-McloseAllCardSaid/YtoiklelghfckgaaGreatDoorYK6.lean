/- A part of the claim. -/
import Derived.Test.YtoiklelghfckgaaGreatDoorYK5
import Derived.Deep.RegionHeld3
import Derived.Deep.MidRow
import Derived.Deep.WholeRow
import Derived.Shelf.Small.Bits
import Derived.Laws.Closers25b
import Derived.Sort.LotA
import Derived.Sort.LotB
import Derived.Sort.LotC
import Derived.Deep.DeepCutAuto
import Derived.Shelf.SlIterI.Sorted
import Derived.Sort.MapsRangeIn
section
set_option maxRecDepth 100000
set_option maxHeartbeats 8000000
set_option linter.unusedVariables false
namespace Go.Proofs.YtoiklelghfckgaaGreatDoor.Le
open Go.ChangeShapes Go.WideShapes Go.ChangeAt Go.RowKit Go.Deep Go.Maps Rw Hi Mt Ck
theorem take_lt {D:List (Int × Ls)} {id:Int} {k:Nat} {a:Int × Ls} (h:∀ a∈D.take k,a.1 < id) (hk:D[k]? = some a) (F:a.1 < id):∀ a∈D.take (k+1),a.1 < id:=by
 obtain⟨z,rfl⟩:=List.getElem?_eq_some_iff.1 hk
 intro b u
 rw[List.take_succ_eq_append_getElem z] at u
 rcases List.mem_append.1 u with u | u
 .exact h b u
 .rw[List.mem_singleton.1 u]; exact F
section
variable (leak:Int) (A A2 A3:Option Addr) (n c n2 c2 n3 c3:Nat) (D:List (Int × Ls)) (M:List Int) (T:List (Int × Int)) (w:World)
theorem rbegin_any {K:Nat->Prop} (id th now:Int) (h:DkK K w ⟨A,n,c,A2,n2,c2,A3,n3,c3⟩ D M T) (b6:∀ g,w.heap.size<=g->K g) (hs:Sd D) (tms:Wl.Tms T) (hid:U64 id) (bG:U64 now) (bB:U64 leak) (hn:n<=1000) (bC:n2<=1000) (bD:n3<=1000) :
  Calls Tryz.prog 136 #[.agg #[.int .u64 leak,.slice A n c,.slice A2 n2 c2,.slice A3 n3 c3],.int .u64 id,.int .i64 th,.int .u64 now] w fun e w'=>∃ (d:Da) (D':List (Int × Ls)),e=.returned (.tuple #[d.val leak,.int .i64 (bE D id th)])/\(bL D id th now).Perm D'/\Sd D' /\
   DkK K w' d D' M (bT leak D T id th now)/\Below w.heap.size w w':=by
 obtain⟨i0,hi,aF,aG,aH⟩:=info_parts info_lease
 obtain⟨b8,be,bg,bd⟩:=boxes leak A A2 A3 n c n2 c2 n3 c3 w
 have W:=Lh h
 have ag:=Lh b6
 clear b6
 have ad:=Lh b8
 have aj:=Lh be
 have ak:=Lh bg
 have aR:=Lh bd
 have ax:=Lh hs
 have aJ:=Lh tms
 have aP:Hid (D.length=n):=Lh h.l.len
 have bo:Hid (T.length=n3):=Lh h.t.len
 clear h b8 be bg bd hs tms
 by_cases h1:th < 0\/8<=th
 .have e:bE D id th=2:=by unfold bE; rw[if_pos h1]
  have eL:bL D id th now=D:=by unfold bL; rw[e,if_neg (by decide)]
  have eT:bT leak D T id th now=T:=by unfold bT; rw[e,if_neg (fun h=>absurd h.1 (by decide))]
  rw[e,eL,eT]
  clear e eL eT
  go_enter Tryz.func136,Tryz.ntmps136
  go_upto_region 1 with (fail)
  generalize ((w.alloc (.cells #[.int .u64 leak,.slice A n c,.slice A2 n2 c2,.slice A3 n3 c3] 38)).alloc (.cells #[.int .u64 0,.slice none 0 0,.slice none 0 0,.slice none 0 0] 38))=W1 at *
  obtain⟨⟨f0,f1,f2,f3⟩,g0,g1,g2,g3⟩:=aj.out
  obtain⟨⟨r0,r1,r2,r3⟩,z0,z1,z2,z3⟩:=ak.out
  have aX:w.heap.size+2<=W1.heap.size:=by have:=aR.out; omega
  by_cases h0:th < 0
  .have q1:decide (th < 0)=true:=decide_eq_true h0
   clear h1 h0
   go_wp2_with fail
   have J:Below w.heap.size w ((((W1.setCell ⟨w.heap.size+1,0,none⟩ (.int .u64 leak)).setCell ⟨w.heap.size+1,1,none⟩ (.slice A n c)).setCell ⟨w.heap.size+1,2,none⟩ (.slice A2 n2 c2)).setCell ⟨w.heap.size+1,3,none⟩ (.slice A3 n3 c3)):=by
    repeat' (first | exact ad.out | apply Below.setCell | apply bdN | apply Below.drew | apply Below.alloc)
    all_goals (first | (simp; done) | (simp; omega))
   refine bodyPost_ret (v:=.tuple #[.agg #[.int .u64 leak,.slice A n c,.slice A2 n2 c2,.slice A3 n3 c3],.int .i64 2]) (by simp[results,Tryz.results136,go_sem,r0,r1,r2,r3]) rfl ⟨⟨A,n,c,A2,n2,c2,A3,n3,c3⟩,D,rfl,List.Perm.refl _,ax.out,W.out.later J,J⟩
  .have q1:decide (th < 0)=false:=decide_eq_false h0
   have q2:decide (7 < th)=true:=decide_eq_true (by omega)
   clear h1 h0
   go_wp2_with fail
   have J:Below w.heap.size w ((((W1.setCell ⟨w.heap.size+1,0,none⟩ (.int .u64 leak)).setCell ⟨w.heap.size+1,1,none⟩ (.slice A n c)).setCell ⟨w.heap.size+1,2,none⟩ (.slice A2 n2 c2)).setCell ⟨w.heap.size+1,3,none⟩ (.slice A3 n3 c3)):=by
    repeat' (first | exact ad.out | apply Below.setCell | apply bdN | apply Below.drew | apply Below.alloc)
    all_goals (first | (simp; done) | (simp; omega))
   refine bodyPost_ret (v:=.tuple #[.agg #[.int .u64 leak,.slice A n c,.slice A2 n2 c2,.slice A3 n3 c3],.int .i64 2]) (by simp[results,Tryz.results136,go_sem,r0,r1,r2,r3]) rfl ⟨⟨A,n,c,A2,n2,c2,A3,n3,c3⟩,D,rfl,List.Perm.refl _,ax.out,W.out.later J,J⟩
 have q1:decide (th < 0)=false:=decide_eq_false (by omega)
 have q2:decide (7 < th)=false:=decide_eq_false (by omega)
 rcases fx_cases D id with ⟨ar,aB⟩ | ⟨k,y,hk,bv,aB,ar⟩
 rotate_left
 .have e:bE D id th=10:=by unfold bE; rw[if_neg h1,if_pos (by rw[ar]; rfl)]
  have eL:bL D id th now=D:=by unfold bL; rw[e,if_neg (by decide)]
  have eT:bT leak D T id th now=T:=by unfold bT; rw[e,if_neg (fun h=>absurd h.1 (by decide))]
  rw[e,eL,eT]
  clear e eL eT
  go_enter Tryz.func136,Tryz.ntmps136
  go_upto_region 1 with (fail)
  generalize ((w.alloc (.cells #[.int .u64 leak,.slice A n c,.slice A2 n2 c2,.slice A3 n3 c3] 38)).alloc (.cells #[.int .u64 0,.slice none 0 0,.slice none 0 0,.slice none 0 0] 38))=W1 at *
  obtain⟨⟨f0,f1,f2,f3⟩,g0,g1,g2,g3⟩:=aj.out
  obtain⟨⟨r0,r1,r2,r3⟩,z0,z1,z2,z3⟩:=ak.out
  have aX:w.heap.size+2<=W1.heap.size:=by have:=aR.out; omega
  have HF:=Lh (rfind_any leak A A2 A3 n c n2 c2 n3 c3 w.heap.size D W1 id (W.out.l.below ad.out) (by omega) (by omega))
  have q3:decide ((0:Int)<=(k:Int))=true:=decide_eq_true (by omega)
  rw[aB] at HF
  clear h1 hk bv aB ar
  go_wp2_with fail
  refine HF.out.mono ?_
  rintro e w2 ⟨rfl,ac⟩
  have au:=Lh (ad.out.trans (ac.mono ad.out.size))
  obtain⟨⟨f0,f1,f2,f3⟩,g0,g1,g2,g3⟩:=aj.out.below ac (by omega)
  obtain⟨⟨r0,r1,r2,r3⟩,z0,z1,z2,z3⟩:=ak.out.below ac (by omega)
  have bw:w.heap.size+2<=w2.heap.size:=by have:=ac.size; omega
  clear ac aj ak ad HF
  go_wp2_with fail
  have J:Below w.heap.size w ((((w2.setCell ⟨w.heap.size+1,0,none⟩ (.int .u64 leak)).setCell ⟨w.heap.size+1,1,none⟩ (.slice A n c)).setCell ⟨w.heap.size+1,2,none⟩ (.slice A2 n2 c2)).setCell ⟨w.heap.size+1,3,none⟩ (.slice A3 n3 c3)):=by
   repeat' (first | exact au.out | apply Below.setCell | apply bdN | apply Below.drew | apply Below.alloc)
   all_goals (first | (simp; done) | (simp; omega))
  refine bodyPost_ret (v:=.tuple #[.agg #[.int .u64 leak,.slice A n c,.slice A2 n2 c2,.slice A3 n3 c3],.int .i64 10]) (by simp[results,Tryz.results136,go_sem,r0,r1,r2,r3]) rfl ⟨⟨A,n,c,A2,n2,c2,A3,n3,c3⟩,D,rfl,List.Perm.refl _,ax.out,W.out.later J,J⟩
 have e0:bE D id th=0:=by unfold bE; rw[if_neg h1,if_neg (by rw[ar]; decide)]
 have eL:bL D id th now=(id,⟨th,now,false⟩) :: D:=by unfold bL; rw[if_pos e0]
 have bh:=Lh e0
 have bn:Hid (∀ a∈D,a.1≠id):=Lh (fun a ha e=>by
  have:=mem_key.2 ⟨a.2,(show (id,a.2)∈D by rw[<- e]; exact ha)⟩
  have h9:=fnd_is (l:=D) (k:=id)
  rw[ar,decide_eq_true this] at h9; cases h9)
 rw[e0,eL]
 go_enter Tryz.func136,Tryz.ntmps136
 go_upto_region 1 with (fail)
 generalize ((w.alloc (.cells #[.int .u64 leak,.slice A n c,.slice A2 n2 c2,.slice A3 n3 c3] 38)).alloc (.cells #[.int .u64 0,.slice none 0 0,.slice none 0 0,.slice none 0 0] 38))=W1 at *
 obtain⟨⟨f0,f1,f2,f3⟩,g0,g1,g2,g3⟩:=aj.out
 obtain⟨⟨r0,r1,r2,r3⟩,z0,z1,z2,z3⟩:=ak.out
 have aX:w.heap.size+2<=W1.heap.size:=by have:=aR.out; omega
 have HF:=Lh (rfind_any leak A A2 A3 n c n2 c2 n3 c3 w.heap.size D W1 id (W.out.l.below ad.out) (by omega) (by omega))
 have q3:decide ((0:Int) <= -1)=false:=rfl
 have q4:decide ((1024:Int)<=(n:Int))=false:=decide_eq_false (by omega)
 have bM:decide (1024<=n)=false:=decide_eq_false (by omega)
 rw[aB] at HF
 clear h1 aB ar e0 eL
 go_wp2_with fail
 refine HF.out.mono ?_
 rintro e w2 ⟨rfl,ac⟩
 have au:=Lh (ad.out.trans (ac.mono ad.out.size))
 have VF:=Lh (aj.out.below ac (by omega))
 have VR:=Lh (ak.out.below ac (by omega))
 obtain⟨⟨f0,f1,f2,f3⟩,g0,g1,g2,g3⟩:=VF.out
 have bw:w.heap.size+2<=w2.heap.size:=by have:=ac.size; omega
 clear ac aj ak ad HF aX r0 r1 r2 r3 z0 z1 z2 z3
 go_upto_block 0 with fail
 go_cut [10] from 13 to 100 (fun bz wx=>∃ k:Nat,k<=n/\bz=.int .i64 k/\Hid (∀ a∈D.take k,a.1 < id)/\Hid (∀ a∈D.drop k,id < a.1)/\w2=wx)
 case first=>
  go_wp2_with fail
  go_loopw [10] (fun i wr=>∃ k:Nat,k<=n/\i=.int .i64 k/\Hid (∀ a∈D.take k,a.1 < id)/\w2=wr) (fun i _=>n - (intOf i).toNat)
  case atStart=>exact⟨0,Nat.zero_le _,rfl,Lh (fun a ha=>by simp at ha),rfl⟩
  case round=>
   obtain⟨k,hk,rfl,aW,rfl⟩:=hrel
   by_cases ba:k < n
   .obtain⟨b,o,x,t,s,f,rfl,hb,ha,c0,c1,bp,bq⟩:=four_at W.out.l ba
    have d0:=(au.out.cell (p:=⟨b,o+k * 4,none⟩) (by simp only; omega)).trans c0
    have aO:=Lh ha
    have b9:k < c:=by have:=W.out.l.cap; have:n<=c:=this; omega
    clear c0 c1 bp bq ha
    by_cases hx:x < id
    .have e1:decide (x < id)=true:=decide_eq_true hx
     have bj:=Lh (take_lt aW.out aO.out hx)
     clear hx
     go_wp2_with fail
     go_roundw
     case rel=>exact⟨k+1,by omega,by go_num,bj,by trivial⟩
     case measure=>simp[intOf]; omega
    .have e1:decide (x < id)=false:=decide_eq_false hx
     have an:Hid (∀ a∈D.drop k,id < a.1):=Lh (ax.out.rest (fun a ha=>by
      have h9:=aO.out.symm.trans ha
      injection h9 with h9
      subst h9
      have:=bn.out _ (List.mem_of_getElem? aO.out)
      have h8:x≠id:=this
      show id < x
      omega))
     clear hx
     go_wp2_with fail
     go_meet
     case rel=>exact⟨k,hk,rfl,aW,an,rfl⟩
   .have an:Hid (∀ a∈D.drop k,id < a.1):=Lh (fun a ha=>by
     rw[List.drop_of_length_le (by have:=aP.out; omega)] at ha; cases ha)
    go_wp2_with fail
    go_meet
    case rel=>exact⟨k,hk,rfl,aW,an,rfl⟩
 case rest=>
  obtain⟨k,hk,rfl,b3,an,rfl⟩:=hcut
  obtain⟨Y,aM⟩:∃ X,D.take k ++ (id,(⟨th,now,false⟩:Ls)) :: D.drop k=X:=⟨_,rfl⟩
  have ay:Hid (Sd Y):=Lh (by rw[<- aM]; exact ax.out.put _ b3.out an.out)
  have aq:Hid (((id,(⟨th,now,false⟩:Ls)) :: D).Perm Y):=Lh (by rw[<- aM]; exact put_perm D k _)
  have bi:Hid (flat enc4 (D.take k) ++ flat enc4 [(id,(⟨th,now,false⟩:Ls))] = flat enc4 (D.take k ++ [(id,(⟨th,now,false⟩:Ls))])):=Lh (flA _ _).symm
  have b0:Hid (flat enc4 (D.take k ++ [(id,(⟨th,now,false⟩:Ls))]) ++ flat enc4 (D.drop k)=flat enc4 Y):=Lh (by rw[<- flA,<- aM,List.append_assoc]; rfl)
  have az:Hid (Y.length=n+1):=Lh (by have h1:=aq.out.length_eq; have h2:=aP.out; simp at h1; omega)
  have b2:Hid (k+1+(n - k)=n+1):=Lh (by omega)
  clear aM b3 an
  go_upto_region 11 with (fail)
  go_cut [11] from 47 to 52 (fun bA wx=>∃ (A5:Option Addr) (c5:Nat),bA=.slice A5 k c5/\Hid (wx.ownsRow (w.heap.size+2) 266 4 (.slice A5 k c5) k (flat enc4 (D.take k)))/\Hid (Below (w.heap.size+2) w2 wx)/\w2.heap.size<=wx.heap.size)
  case first=>
   rcases W.out.fl with ⟨hA,hc⟩ | ⟨b,o,hA⟩
   .have hA:A=none:=hA
    have hc:c=0:=hc
    subst hA hc
    obtain rfl:n=0:=by have:n<=0:=W.out.l.cap; omega
    obtain rfl:k=0:=by omega
    have RF:Hid (Rl w2 w2.heap.size none 0 0 (D.take 0)):=Lh (by rw[List.take_zero]; exact Rs.nil_)
    go_wp2_with (
     at_builtin
     refine apRs enc4_len rfl _ _ 35 rfl (w.heap.size+2) 266 i0 _ 32 Tryz.underlying35 hi aF aG aH rfl (by decide) (.slice none 0 0) 0 [] rfl (World.ownsRow_nil _ _ _ _) _ none 0 0 (D.take 0) rfl RF.out enc4_one 0 (Nat.zero_add _) (flat enc4 (D.take 0)) rfl (by unfold maxLen; omega) (by omega) (by omega) ?_
     intro A5 c5 w5 aD al aT
     have B5:=Lh ((Below.refl (w.heap.size+2) w2).grown al (by omega) (fun j hj=>by cases hj))
     have ao:=Lh aD
     have aN:w2.heap.size<=w5.heap.size:=al.size
     clear aD al aT)
    go_meet
    case rel=>exact⟨A5,c5,rfl,ao,B5,aN⟩
   .have hA:A=some ⟨b,o,none⟩:=hA
    subst hA
    have RF:Hid (Rl w2 w2.heap.size (some ⟨b,o,none⟩) k c (D.take k)):=Lh ((W.out.later au.out).l.front (i:=k) hk)
    have bu:n<=c:=W.out.l.cap
    have b9:k<=c:=by omega
    go_wp2_with (
     at_builtin
     refine apRs enc4_len rfl _ _ 35 rfl (w.heap.size+2) 266 i0 _ 32 Tryz.underlying35 hi aF aG aH rfl (by decide) (.slice none 0 0) 0 [] rfl (World.ownsRow_nil _ _ _ _) _ (some ⟨b,o,none⟩) k c (D.take k) rfl RF.out enc4_one k (Nat.zero_add _) (flat enc4 (D.take k)) rfl (by unfold maxLen; omega) (by omega) (by omega) ?_
     intro A5 c5 w5 aD al aT
     have B5:=Lh ((Below.refl (w.heap.size+2) w2).grown al (by omega) (fun j hj=>by cases hj))
     have ao:=Lh aD
     have aN:w2.heap.size<=w5.heap.size:=al.size
     clear aD al aT)
    go_meet
    case rel=>exact⟨A5,c5,rfl,ao,B5,aN⟩
  case rest=>
   obtain⟨A5,c5,rfl,ao,B5,aN⟩:=hcut
   generalize wc=w5 at *
   have b4:=Lh (rs_one enc4_len w5 (id,(⟨th,now,false⟩:Ls)) 266 (cs:=#[.int .u64 id,.int .i64 th,.int .u64 now,.bool false]) rfl)
   have aQ:=Lh (ao.out.alloc (.cells #[.int .u64 id,.int .i64 th,.int .u64 now,.bool false] 266))
   have aZ:=Lh (B5.out.alloc (by omega) (.cells #[.int .u64 id,.int .i64 th,.int .u64 now,.bool false] 266))
   clear ao B5 f0 f1 f2 f3 g0 g1 g2 g3
   go_wp2_with (
    at_builtin
    refine apRs enc4_len rfl _ _ 35 rfl (w.heap.size+2) 266 i0 _ 32 Tryz.underlying35 hi aF aG aH rfl (by decide) (.slice A5 k c5) k (flat enc4 (D.take k)) rfl aQ.out _ _ 1 1 [(id,(⟨th,now,false⟩:Ls))] rfl b4.out enc4_one (k+1) rfl (flat enc4 (D.take k ++ [(id,(⟨th,now,false⟩:Ls))])) bi.out (by unfold maxLen; omega) (by omega) (by simp; omega) ?_
    intro A6 c6 w6 bb aV bt
    refine Hid.out ?_)
   refine Lh ?_
   have B6:=Lh (aZ.out.grown aV (by simp; omega) (fun j hj=>(aQ.out.lt j hj).1))
   have bH:w.heap.size+2<=w6.heap.size:=by have:=aV.size; simp at this; omega
   have aw:=Lh bb
   have aL:=Lh (VF.out.below B6.out (by omega))
   have aS:=Lh (VR.out.below B6.out (by omega))
   have aI:=Lh (au.out.trans (B6.out.mono (by omega)))
   obtain⟨⟨f0,f1,f2,f3⟩,g0,g1,g2,g3⟩:=aL.out
   clear bb aV bt b4 aQ aZ VF VR B6
   go_upto_region 13 with (fail)
   go_cut [] from 60 to 66 (fun wx=>∃ (z:Option Addr) (c7:Nat),Hid (V4 wx w.heap.size (.int .u64 leak) (.slice z (n+1) c7) (.slice A2 n2 c2) (.slice A3 n3 c3))/\Hid (V4 wx (w.heap.size+1) (.int .u64 0) (.slice none 0 0) (.slice none 0 0) (.slice none 0 0))/\Hid (wx.ownsRow (w.heap.size+2) 266 4 (.slice z (n+1) c7) (n+1) (flat enc4 Y))/\Hid (Below w.heap.size w wx)/\w.heap.size+2<=wx.heap.size)
   case first=>
    rcases W.out.fl with ⟨hA,hc⟩ | ⟨b,o,hA⟩
    .have hA:A=none:=hA
     have hc:c=0:=hc
     subst hA hc
     obtain rfl:n=0:=by have:n<=0:=W.out.l.cap; omega
     obtain rfl:k=0:=by omega
     have RB:Hid (Rl w6 w6.heap.size none 0 0 (D.drop 0)):=Lh (by rw[List.drop_of_length_le (by have:=aP.out; omega)]; exact Rs.nil_)
     go_wp2_with (
      at_builtin
      refine apRs enc4_len rfl _ _ 35 rfl (w.heap.size+2) 266 i0 _ 32 Tryz.underlying35 hi aF aG aH rfl (by decide) (.slice A6 (0+1) c6) (0+1) (flat enc4 (D.take 0 ++ [(id,(⟨th,now,false⟩:Ls))])) rfl aw.out _ none 0 0 (D.drop 0) rfl RB.out enc4_one (0+1) b2.out (flat enc4 Y) b0.out (by unfold maxLen; omega) (by omega) (by omega) ?_
      intro z c7 w7 aE aC aU
      have aa:Below (w.heap.size+2) w6 w7:=(Below.refl _ _).grown aC (by omega) (fun j hj=>(aw.out.lt j hj).1)
      have a5:=Lh aE
      have ae:=Lh (aI.out.trans (aa.mono (by omega)))
      obtain⟨⟨f0,f1,f2,f3⟩,g0,g1,g2,g3⟩:=aL.out.below aa (by omega)
      have ah:=Lh (aS.out.below aa (by omega))
      have bc:w.heap.size+2<=w7.heap.size:=by have:=aa.size; omega
      clear aa aE aC aU)
     go_meet
     case rel=>
      refine⟨z,c7,?_,?_,?_,?_,by simp; omega⟩
      .exact Lh ⟨⟨by go_simp,by go_simp,by go_simp,by go_simp⟩,by go_simp,by go_simp,by go_simp,by go_simp⟩
      .refine Lh ?_
       obtain⟨⟨r0,r1,r2,r3⟩,z0,z1,z2,z3⟩:=ah.out
       exact⟨⟨by go_simp,by go_simp,by go_simp,by go_simp⟩,by go_simp,by go_simp,by go_simp,by go_simp⟩
      .refine Lh (Hi.owS a5.out (fun u G=>?_))
       have hg:=(a5.out.lt u G).1
       rw[heap_setCell_other _ _ u _ (fun e=>by have e:u=w.heap.size:=e; omega)]
      .exact Lh (ae.out.setCell (Nat.le_refl _) _)
    .have hA:A=some ⟨b,o,none⟩:=hA
     subst hA
     have bu:n<=c:=W.out.l.cap
     have b9:k<=c:=by omega
     have bI:c<=9223372036854775807:=W.out.l.top
     obtain⟨A4,br⟩:∃ A4:Option Addr,(if c=k then some (⟨b,o,none⟩:Addr) else some ⟨b,o+k * 4,none⟩)=A4:=⟨_,rfl⟩
     have b7:Rl w w.heap.size (some ⟨b,o,none⟩) n c D:=W.out.l
     have b5:Rl w w.heap.size A4 (n - k) (c - k) (D.drop k):=b7.back (i:=k) hk rfl (fun ba=>by rw[<- br,if_neg (by omega)])
     have RB:=Lh (b5.later aI.out)
     clear b7 b5
     go_wp2_with (
      at_builtin
      refine apRs enc4_len rfl _ _ 35 rfl (w.heap.size+2) 266 i0 _ 32 Tryz.underlying35 hi aF aG aH rfl (by decide) (.slice A6 (k+1) c6) (k+1) (flat enc4 (D.take k ++ [(id,(⟨th,now,false⟩:Ls))])) rfl aw.out _ A4 (n - k) (c - k) (D.drop k) rfl RB.out enc4_one (n+1) b2.out (flat enc4 Y) b0.out (by unfold maxLen; omega) (by omega) (by omega) ?_
      intro z c7 w7 aE aC aU
      have aa:Below (w.heap.size+2) w6 w7:=(Below.refl _ _).grown aC (by omega) (fun j hj=>(aw.out.lt j hj).1)
      have a5:=Lh aE
      have ae:=Lh (aI.out.trans (aa.mono (by omega)))
      obtain⟨⟨f0,f1,f2,f3⟩,g0,g1,g2,g3⟩:=aL.out.below aa (by omega)
      have ah:=Lh (aS.out.below aa (by omega))
      have bc:w.heap.size+2<=w7.heap.size:=by have:=aa.size; omega
      clear aa aE aC aU)
     go_meet
     case rel=>
      refine⟨z,c7,?_,?_,?_,?_,by simp; omega⟩
      .exact Lh ⟨⟨by go_simp,by go_simp,by go_simp,by go_simp⟩,by go_simp,by go_simp,by go_simp,by go_simp⟩
      .refine Lh ?_
       obtain⟨⟨r0,r1,r2,r3⟩,z0,z1,z2,z3⟩:=ah.out
       exact⟨⟨by go_simp,by go_simp,by go_simp,by go_simp⟩,by go_simp,by go_simp,by go_simp,by go_simp⟩
      .refine Lh (Hi.owS a5.out (fun u G=>?_))
       have hg:=(a5.out.lt u G).1
       rw[heap_setCell_other _ _ u _ (fun e=>by have e:u=w.heap.size:=e; omega)]
      .exact Lh (ae.out.setCell (Nat.le_refl _) _)
   case rest=>
    obtain⟨z,c7,aA,ah,a5,ae,bc⟩:=hcut
    clear aL aS aw aI f0 f1 f2 f3 g0 g1 g2 g3
    generalize wc=w7 at *
    obtain⟨⟨f0,f1,f2,f3⟩,g0,g1,g2,g3⟩:=aA.out
    by_cases h0:leak=0
    .have q5:decide (0 < leak)=false:=decide_eq_false (by omega)
     have eT:bT leak D T id th now=T:=by unfold bT; rw[if_neg (fun h=>h.2 h0)]
     have af:=Lh eT
     obtain⟨⟨r0,r1,r2,r3⟩,z0,z1,z2,z3⟩:=ah.out
     clear h0 eT
     go_wp2_with fail
     have J:Below w.heap.size w ((((w7.setCell ⟨w.heap.size+1,0,none⟩ (.int .u64 leak)).setCell ⟨w.heap.size+1,1,none⟩ (.slice z (n+1) c7)).setCell ⟨w.heap.size+1,2,none⟩ (.slice A2 n2 c2)).setCell ⟨w.heap.size+1,3,none⟩ (.slice A3 n3 c3)):=by
      repeat' (first | exact ae.out | apply Below.setCell | apply bdN | apply Below.drew | apply Below.alloc)
      all_goals (first | (simp; done) | (simp; omega))
     have a0:((((w7.setCell ⟨w.heap.size+1,0,none⟩ (.int .u64 leak)).setCell ⟨w.heap.size+1,1,none⟩ (.slice z (n+1) c7)).setCell ⟨w.heap.size+1,2,none⟩ (.slice A2 n2 c2)).setCell ⟨w.heap.size+1,3,none⟩ (.slice A3 n3 c3)).ownsRow (w.heap.size+2) 266 4 (.slice z (n+1) c7) (n+1) (flat enc4 Y):=by
      refine Hi.owS a5.out (fun u G=>?_)
      have hg:=(a5.out.lt u G).1
      rw[heap_setCell_other _ _ u _ (fun e=>by have e:u=w.heap.size+1:=e; omega),heap_setCell_other _ _ u _ (fun e=>by have e:u=w.heap.size+1:=e; omega),heap_setCell_other _ _ u _ (fun e=>by have e:u=w.heap.size+1:=e; omega),heap_setCell_other _ _ u _ (fun e=>by have e:u=w.heap.size+1:=e; omega)]
     have a4:=W.out.later J
     refine bodyPost_ret (v:=.tuple #[.agg #[.int .u64 leak,.slice z (n+1) c7,.slice A2 n2 c2,.slice A3 n3 c3],.int .i64 0]) (by simp[results,Tryz.results136,go_sem,r0,r1,r2,r3]) rfl ⟨⟨z,n+1,c7,A2,n2,c2,A3,n3,c3⟩,Y,rfl,aq.out,ay.out,by rw[af.out]; exact⟨Rs.own_rs enc4_len az.out a0,a4.m,a4.t,a4.fm,Wl.own_fm a0,Kn.own a0 (fun g hg=>ag.out g (by omega)),a4.km,a4.kt⟩,J⟩
    .have q5:decide (0 < leak)=true:=decide_eq_true (by omega)
     have av:Hid (¬ 1024<=(Wl.wo T id).length):=Lh (by have:=Wl.wo_len T id; have:=bo.out; omega)
     have aK:=Lh (W.out.t.below ae.out)
     have eT:bT leak D T id th now=Wl.ins (id,Wl.cut (cAdd now leak)) (Wl.wo T id):=by
      unfold bT; rw[if_pos ⟨bh.out,h0⟩]; unfold Wl.arm; rw[if_neg (by unfold Wl.full; rw[decide_eq_false av.out]; decide)]
     have af:=Lh eT
     clear h0 eT
     by_cases a1:now<=1152921504606846976
     .have q6:decide (now<=1152921504606846976)=true:=decide_eq_true a1
      by_cases a2:leak<=1152921504606846976
      .have q7:decide (leak<=1152921504606846976)=true:=decide_eq_true a2
       have bJ:IntKind.u64.wrap (now+leak)=now+leak:=by rw[IntKind.wrap_u64]; omega
       by_cases a3:now+leak<=1152921504606846976
       .have q8:decide (now+leak<=1152921504606846976)=true:=decide_eq_true a3
        have ec:cAdd now leak=now+leak:=by unfold cAdd; rw[if_pos a3]
        rw[ec] at af
        clear ec
        go_wp2_with fail
        refine (Wl.tarm_room A3 n3 c3 w.heap.size T id (now+leak) w7 aK.out (by omega) (by omega) aJ.out ⟨by omega,by omega⟩ av.out).mono ?_
        rintro e Q ⟨F,c9,rfl,a6,I⟩
        obtain⟨q,hq⟩:∃ q,(Wl.wo T id).length=q:=⟨_,rfl⟩
        rw[hq] at a6 ⊢
        have a9:=Lh a6
        have HQ:=Lh hq
        have ai:=Lh (ae.out.trans (I.mono (by omega)))
        have a8:Hid (Q.ownsRow (w.heap.size+2) 266 4 (.slice z (n+1) c7) (n+1) (flat enc4 Y)):=Lh (Hi.owS a5.out (fun u G=>I.block u (a5.out.lt u G).2))
        obtain⟨⟨f0,f1,f2,f3⟩,g0,g1,g2,g3⟩:=aA.out.below I (by omega)
        obtain⟨⟨r0,r1,r2,r3⟩,z0,z1,z2,z3⟩:=ah.out.below I (by omega)
        have aY:w7.heap.size<=Q.heap.size:=I.size
        clear I a6 hq
        go_wp2_with fail
        have J:Below w.heap.size w (((((Q.setCell ⟨w.heap.size,3,none⟩ (.slice F (q+1) c9)).setCell ⟨w.heap.size+1,0,none⟩ (.int .u64 leak)).setCell ⟨w.heap.size+1,1,none⟩ (.slice z (n+1) c7)).setCell ⟨w.heap.size+1,2,none⟩ (.slice A2 n2 c2)).setCell ⟨w.heap.size+1,3,none⟩ (.slice F (q+1) c9)):=by
         repeat' (first | exact ai.out | apply Below.setCell | apply bdN | apply Below.drew | apply Below.alloc)
         all_goals (first | (simp; done) | (simp; omega))
        have a0:(((((Q.setCell ⟨w.heap.size,3,none⟩ (.slice F (q+1) c9)).setCell ⟨w.heap.size+1,0,none⟩ (.int .u64 leak)).setCell ⟨w.heap.size+1,1,none⟩ (.slice z (n+1) c7)).setCell ⟨w.heap.size+1,2,none⟩ (.slice A2 n2 c2)).setCell ⟨w.heap.size+1,3,none⟩ (.slice F (q+1) c9)).ownsRow (w.heap.size+2) 266 4 (.slice z (n+1) c7) (n+1) (flat enc4 Y):=by
         refine Hi.owS a8.out (fun u G=>?_)
         have hg:=(a8.out.lt u G).1
         rw[heap_setCell_other _ _ u _ (fun e=>by have e:u=w.heap.size+1:=e; omega),heap_setCell_other _ _ u _ (fun e=>by have e:u=w.heap.size+1:=e; omega),heap_setCell_other _ _ u _ (fun e=>by have e:u=w.heap.size+1:=e; omega),heap_setCell_other _ _ u _ (fun e=>by have e:u=w.heap.size+1:=e; omega),heap_setCell_other _ _ u _ (fun e=>by have e:u=w.heap.size:=e; omega)]
        have a7:(((((Q.setCell ⟨w.heap.size,3,none⟩ (.slice F (q+1) c9)).setCell ⟨w.heap.size+1,0,none⟩ (.int .u64 leak)).setCell ⟨w.heap.size+1,1,none⟩ (.slice z (n+1) c7)).setCell ⟨w.heap.size+1,2,none⟩ (.slice A2 n2 c2)).setCell ⟨w.heap.size+1,3,none⟩ (.slice F (q+1) c9)).ownsRow w7.heap.size 287 2 (.slice F (q+1) c9) (q+1) (flat Wl.enc2 (Wl.ins (id,Wl.cut (now+leak)) (Wl.wo T id))):=by
         refine Hi.owS a9.out (fun u G=>?_)
         have hg:=(a9.out.lt u G).1
         rw[heap_setCell_other _ _ u _ (fun e=>by have e:u=w.heap.size+1:=e; omega),heap_setCell_other _ _ u _ (fun e=>by have e:u=w.heap.size+1:=e; omega),heap_setCell_other _ _ u _ (fun e=>by have e:u=w.heap.size+1:=e; omega),heap_setCell_other _ _ u _ (fun e=>by have e:u=w.heap.size+1:=e; omega),heap_setCell_other _ _ u _ (fun e=>by have e:u=w.heap.size:=e; omega)]
        have a4:=W.out.later J
        refine bodyPost_ret (v:=.tuple #[.agg #[.int .u64 leak,.slice z (n+1) c7,.slice A2 n2 c2,.slice F (q+1) c9],.int .i64 0]) (by simp[results,Tryz.results136,go_sem,r0,r1,r2,r3]) rfl ⟨⟨z,n+1,c7,A2,n2,c2,F,q+1,c9⟩,Y,rfl,aq.out,ay.out,by rw[af.out]; exact⟨Rs.own_rs enc4_len az.out a0,a4.m,Rs.own_rs Wl.e2l (by rw[Wl.ins_len,HQ.out]) a7,Wl.own_fm a7,Wl.own_fm a0,Kn.own a0 (fun g hg=>ag.out g (by omega)),a4.km,Kn.own a7 (fun g hg=>ag.out g (by omega))⟩,J⟩
       .have q8:decide (now+leak<=1152921504606846976)=false:=decide_eq_false a3
        have ec:cAdd now leak=1152921504606846976:=by unfold cAdd; rw[if_neg a3]
        rw[ec] at af
        clear ec
        go_wp2_with fail
        refine (Wl.tarm_room A3 n3 c3 w.heap.size T id 1152921504606846976 w7 aK.out (by omega) (by omega) aJ.out ⟨by omega,by omega⟩ av.out).mono ?_
        rintro e Q ⟨F,c9,rfl,a6,I⟩
        obtain⟨q,hq⟩:∃ q,(Wl.wo T id).length=q:=⟨_,rfl⟩
        rw[hq] at a6 ⊢
        have a9:=Lh a6
        have HQ:=Lh hq
        have ai:=Lh (ae.out.trans (I.mono (by omega)))
        have a8:Hid (Q.ownsRow (w.heap.size+2) 266 4 (.slice z (n+1) c7) (n+1) (flat enc4 Y)):=Lh (Hi.owS a5.out (fun u G=>I.block u (a5.out.lt u G).2))
        obtain⟨⟨f0,f1,f2,f3⟩,g0,g1,g2,g3⟩:=aA.out.below I (by omega)
        obtain⟨⟨r0,r1,r2,r3⟩,z0,z1,z2,z3⟩:=ah.out.below I (by omega)
        have aY:w7.heap.size<=Q.heap.size:=I.size
        clear I a6 hq
        go_wp2_with fail
        have J:Below w.heap.size w (((((Q.setCell ⟨w.heap.size,3,none⟩ (.slice F (q+1) c9)).setCell ⟨w.heap.size+1,0,none⟩ (.int .u64 leak)).setCell ⟨w.heap.size+1,1,none⟩ (.slice z (n+1) c7)).setCell ⟨w.heap.size+1,2,none⟩ (.slice A2 n2 c2)).setCell ⟨w.heap.size+1,3,none⟩ (.slice F (q+1) c9)):=by
         repeat' (first | exact ai.out | apply Below.setCell | apply bdN | apply Below.drew | apply Below.alloc)
         all_goals (first | (simp; done) | (simp; omega))
        have a0:(((((Q.setCell ⟨w.heap.size,3,none⟩ (.slice F (q+1) c9)).setCell ⟨w.heap.size+1,0,none⟩ (.int .u64 leak)).setCell ⟨w.heap.size+1,1,none⟩ (.slice z (n+1) c7)).setCell ⟨w.heap.size+1,2,none⟩ (.slice A2 n2 c2)).setCell ⟨w.heap.size+1,3,none⟩ (.slice F (q+1) c9)).ownsRow (w.heap.size+2) 266 4 (.slice z (n+1) c7) (n+1) (flat enc4 Y):=by
         refine Hi.owS a8.out (fun u G=>?_)
         have hg:=(a8.out.lt u G).1
         rw[heap_setCell_other _ _ u _ (fun e=>by have e:u=w.heap.size+1:=e; omega),heap_setCell_other _ _ u _ (fun e=>by have e:u=w.heap.size+1:=e; omega),heap_setCell_other _ _ u _ (fun e=>by have e:u=w.heap.size+1:=e; omega),heap_setCell_other _ _ u _ (fun e=>by have e:u=w.heap.size+1:=e; omega),heap_setCell_other _ _ u _ (fun e=>by have e:u=w.heap.size:=e; omega)]
        have a7:(((((Q.setCell ⟨w.heap.size,3,none⟩ (.slice F (q+1) c9)).setCell ⟨w.heap.size+1,0,none⟩ (.int .u64 leak)).setCell ⟨w.heap.size+1,1,none⟩ (.slice z (n+1) c7)).setCell ⟨w.heap.size+1,2,none⟩ (.slice A2 n2 c2)).setCell ⟨w.heap.size+1,3,none⟩ (.slice F (q+1) c9)).ownsRow w7.heap.size 287 2 (.slice F (q+1) c9) (q+1) (flat Wl.enc2 (Wl.ins (id,Wl.cut 1152921504606846976) (Wl.wo T id))):=by
         refine Hi.owS a9.out (fun u G=>?_)
         have hg:=(a9.out.lt u G).1
         rw[heap_setCell_other _ _ u _ (fun e=>by have e:u=w.heap.size+1:=e; omega),heap_setCell_other _ _ u _ (fun e=>by have e:u=w.heap.size+1:=e; omega),heap_setCell_other _ _ u _ (fun e=>by have e:u=w.heap.size+1:=e; omega),heap_setCell_other _ _ u _ (fun e=>by have e:u=w.heap.size+1:=e; omega),heap_setCell_other _ _ u _ (fun e=>by have e:u=w.heap.size:=e; omega)]
        have a4:=W.out.later J
        refine bodyPost_ret (v:=.tuple #[.agg #[.int .u64 leak,.slice z (n+1) c7,.slice A2 n2 c2,.slice F (q+1) c9],.int .i64 0]) (by simp[results,Tryz.results136,go_sem,r0,r1,r2,r3]) rfl ⟨⟨z,n+1,c7,A2,n2,c2,F,q+1,c9⟩,Y,rfl,aq.out,ay.out,by rw[af.out]; exact⟨Rs.own_rs enc4_len az.out a0,a4.m,Rs.own_rs Wl.e2l (by rw[Wl.ins_len,HQ.out]) a7,Wl.own_fm a7,Wl.own_fm a0,Kn.own a0 (fun g hg=>ag.out g (by omega)),a4.km,Kn.own a7 (fun g hg=>ag.out g (by omega))⟩,J⟩
      .have q7:decide (leak<=1152921504606846976)=false:=decide_eq_false a2
       have ec:cAdd now leak=1152921504606846976:=by unfold cAdd; rw[if_neg (by omega)]
       rw[ec] at af
       clear ec
       go_wp2_with fail
       refine (Wl.tarm_room A3 n3 c3 w.heap.size T id 1152921504606846976 w7 aK.out (by omega) (by omega) aJ.out ⟨by omega,by omega⟩ av.out).mono ?_
       rintro e Q ⟨F,c9,rfl,a6,I⟩
       obtain⟨q,hq⟩:∃ q,(Wl.wo T id).length=q:=⟨_,rfl⟩
       rw[hq] at a6 ⊢
       have a9:=Lh a6
       have HQ:=Lh hq
       have ai:=Lh (ae.out.trans (I.mono (by omega)))
       have a8:Hid (Q.ownsRow (w.heap.size+2) 266 4 (.slice z (n+1) c7) (n+1) (flat enc4 Y)):=Lh (Hi.owS a5.out (fun u G=>I.block u (a5.out.lt u G).2))
       obtain⟨⟨f0,f1,f2,f3⟩,g0,g1,g2,g3⟩:=aA.out.below I (by omega)
       obtain⟨⟨r0,r1,r2,r3⟩,z0,z1,z2,z3⟩:=ah.out.below I (by omega)
       have aY:w7.heap.size<=Q.heap.size:=I.size
       clear I a6 hq
       go_wp2_with fail
       have J:Below w.heap.size w (((((Q.setCell ⟨w.heap.size,3,none⟩ (.slice F (q+1) c9)).setCell ⟨w.heap.size+1,0,none⟩ (.int .u64 leak)).setCell ⟨w.heap.size+1,1,none⟩ (.slice z (n+1) c7)).setCell ⟨w.heap.size+1,2,none⟩ (.slice A2 n2 c2)).setCell ⟨w.heap.size+1,3,none⟩ (.slice F (q+1) c9)):=by
        repeat' (first | exact ai.out | apply Below.setCell | apply bdN | apply Below.drew | apply Below.alloc)
        all_goals (first | (simp; done) | (simp; omega))
       have a0:(((((Q.setCell ⟨w.heap.size,3,none⟩ (.slice F (q+1) c9)).setCell ⟨w.heap.size+1,0,none⟩ (.int .u64 leak)).setCell ⟨w.heap.size+1,1,none⟩ (.slice z (n+1) c7)).setCell ⟨w.heap.size+1,2,none⟩ (.slice A2 n2 c2)).setCell ⟨w.heap.size+1,3,none⟩ (.slice F (q+1) c9)).ownsRow (w.heap.size+2) 266 4 (.slice z (n+1) c7) (n+1) (flat enc4 Y):=by
        refine Hi.owS a8.out (fun u G=>?_)
        have hg:=(a8.out.lt u G).1
        rw[heap_setCell_other _ _ u _ (fun e=>by have e:u=w.heap.size+1:=e; omega),heap_setCell_other _ _ u _ (fun e=>by have e:u=w.heap.size+1:=e; omega),heap_setCell_other _ _ u _ (fun e=>by have e:u=w.heap.size+1:=e; omega),heap_setCell_other _ _ u _ (fun e=>by have e:u=w.heap.size+1:=e; omega),heap_setCell_other _ _ u _ (fun e=>by have e:u=w.heap.size:=e; omega)]
       have a7:(((((Q.setCell ⟨w.heap.size,3,none⟩ (.slice F (q+1) c9)).setCell ⟨w.heap.size+1,0,none⟩ (.int .u64 leak)).setCell ⟨w.heap.size+1,1,none⟩ (.slice z (n+1) c7)).setCell ⟨w.heap.size+1,2,none⟩ (.slice A2 n2 c2)).setCell ⟨w.heap.size+1,3,none⟩ (.slice F (q+1) c9)).ownsRow w7.heap.size 287 2 (.slice F (q+1) c9) (q+1) (flat Wl.enc2 (Wl.ins (id,Wl.cut 1152921504606846976) (Wl.wo T id))):=by
        refine Hi.owS a9.out (fun u G=>?_)
        have hg:=(a9.out.lt u G).1
        rw[heap_setCell_other _ _ u _ (fun e=>by have e:u=w.heap.size+1:=e; omega),heap_setCell_other _ _ u _ (fun e=>by have e:u=w.heap.size+1:=e; omega),heap_setCell_other _ _ u _ (fun e=>by have e:u=w.heap.size+1:=e; omega),heap_setCell_other _ _ u _ (fun e=>by have e:u=w.heap.size+1:=e; omega),heap_setCell_other _ _ u _ (fun e=>by have e:u=w.heap.size:=e; omega)]
       have a4:=W.out.later J
       refine bodyPost_ret (v:=.tuple #[.agg #[.int .u64 leak,.slice z (n+1) c7,.slice A2 n2 c2,.slice F (q+1) c9],.int .i64 0]) (by simp[results,Tryz.results136,go_sem,r0,r1,r2,r3]) rfl ⟨⟨z,n+1,c7,A2,n2,c2,F,q+1,c9⟩,Y,rfl,aq.out,ay.out,by rw[af.out]; exact⟨Rs.own_rs enc4_len az.out a0,a4.m,Rs.own_rs Wl.e2l (by rw[Wl.ins_len,HQ.out]) a7,Wl.own_fm a7,Wl.own_fm a0,Kn.own a0 (fun g hg=>ag.out g (by omega)),a4.km,Kn.own a7 (fun g hg=>ag.out g (by omega))⟩,J⟩
     .have q6:decide (now<=1152921504606846976)=false:=decide_eq_false a1
      have ec:cAdd now leak=1152921504606846976:=by unfold cAdd; rw[if_neg (by omega)]
      rw[ec] at af
      clear ec
      go_wp2_with fail
      refine (Wl.tarm_room A3 n3 c3 w.heap.size T id 1152921504606846976 w7 aK.out (by omega) (by omega) aJ.out ⟨by omega,by omega⟩ av.out).mono ?_
      rintro e Q ⟨F,c9,rfl,a6,I⟩
      obtain⟨q,hq⟩:∃ q,(Wl.wo T id).length=q:=⟨_,rfl⟩
      rw[hq] at a6 ⊢
      have a9:=Lh a6
      have HQ:=Lh hq
      have ai:=Lh (ae.out.trans (I.mono (by omega)))
      have a8:Hid (Q.ownsRow (w.heap.size+2) 266 4 (.slice z (n+1) c7) (n+1) (flat enc4 Y)):=Lh (Hi.owS a5.out (fun u G=>I.block u (a5.out.lt u G).2))
      obtain⟨⟨f0,f1,f2,f3⟩,g0,g1,g2,g3⟩:=aA.out.below I (by omega)
      obtain⟨⟨r0,r1,r2,r3⟩,z0,z1,z2,z3⟩:=ah.out.below I (by omega)
      have aY:w7.heap.size<=Q.heap.size:=I.size
      clear I a6 hq
      go_wp2_with fail
      have J:Below w.heap.size w (((((Q.setCell ⟨w.heap.size,3,none⟩ (.slice F (q+1) c9)).setCell ⟨w.heap.size+1,0,none⟩ (.int .u64 leak)).setCell ⟨w.heap.size+1,1,none⟩ (.slice z (n+1) c7)).setCell ⟨w.heap.size+1,2,none⟩ (.slice A2 n2 c2)).setCell ⟨w.heap.size+1,3,none⟩ (.slice F (q+1) c9)):=by
       repeat' (first | exact ai.out | apply Below.setCell | apply bdN | apply Below.drew | apply Below.alloc)
       all_goals (first | (simp; done) | (simp; omega))
      have a0:(((((Q.setCell ⟨w.heap.size,3,none⟩ (.slice F (q+1) c9)).setCell ⟨w.heap.size+1,0,none⟩ (.int .u64 leak)).setCell ⟨w.heap.size+1,1,none⟩ (.slice z (n+1) c7)).setCell ⟨w.heap.size+1,2,none⟩ (.slice A2 n2 c2)).setCell ⟨w.heap.size+1,3,none⟩ (.slice F (q+1) c9)).ownsRow (w.heap.size+2) 266 4 (.slice z (n+1) c7) (n+1) (flat enc4 Y):=by
       refine Hi.owS a8.out (fun u G=>?_)
       have hg:=(a8.out.lt u G).1
       rw[heap_setCell_other _ _ u _ (fun e=>by have e:u=w.heap.size+1:=e; omega),heap_setCell_other _ _ u _ (fun e=>by have e:u=w.heap.size+1:=e; omega),heap_setCell_other _ _ u _ (fun e=>by have e:u=w.heap.size+1:=e; omega),heap_setCell_other _ _ u _ (fun e=>by have e:u=w.heap.size+1:=e; omega),heap_setCell_other _ _ u _ (fun e=>by have e:u=w.heap.size:=e; omega)]
      have a7:(((((Q.setCell ⟨w.heap.size,3,none⟩ (.slice F (q+1) c9)).setCell ⟨w.heap.size+1,0,none⟩ (.int .u64 leak)).setCell ⟨w.heap.size+1,1,none⟩ (.slice z (n+1) c7)).setCell ⟨w.heap.size+1,2,none⟩ (.slice A2 n2 c2)).setCell ⟨w.heap.size+1,3,none⟩ (.slice F (q+1) c9)).ownsRow w7.heap.size 287 2 (.slice F (q+1) c9) (q+1) (flat Wl.enc2 (Wl.ins (id,Wl.cut 1152921504606846976) (Wl.wo T id))):=by
       refine Hi.owS a9.out (fun u G=>?_)
       have hg:=(a9.out.lt u G).1
       rw[heap_setCell_other _ _ u _ (fun e=>by have e:u=w.heap.size+1:=e; omega),heap_setCell_other _ _ u _ (fun e=>by have e:u=w.heap.size+1:=e; omega),heap_setCell_other _ _ u _ (fun e=>by have e:u=w.heap.size+1:=e; omega),heap_setCell_other _ _ u _ (fun e=>by have e:u=w.heap.size+1:=e; omega),heap_setCell_other _ _ u _ (fun e=>by have e:u=w.heap.size:=e; omega)]
      have a4:=W.out.later J
      refine bodyPost_ret (v:=.tuple #[.agg #[.int .u64 leak,.slice z (n+1) c7,.slice A2 n2 c2,.slice F (q+1) c9],.int .i64 0]) (by simp[results,Tryz.results136,go_sem,r0,r1,r2,r3]) rfl ⟨⟨z,n+1,c7,A2,n2,c2,F,q+1,c9⟩,Y,rfl,aq.out,ay.out,by rw[af.out]; exact⟨Rs.own_rs enc4_len az.out a0,a4.m,Rs.own_rs Wl.e2l (by rw[Wl.ins_len,HQ.out]) a7,Wl.own_fm a7,Wl.own_fm a0,Kn.own a0 (fun g hg=>ag.out g (by omega)),a4.km,Kn.own a7 (fun g hg=>ag.out g (by omega))⟩,J⟩
end
end Go.Proofs.YtoiklelghfckgaaGreatDoor.Le
namespace Go.Proofs.YtoiklelghfckgaaGreatDoor.Le
open Go.ChangeShapes Go.WideShapes Go.ChangeAt Go.RowKit Go.Deep Go.Maps Rw Hi Mt
section
variable (leak:Int) (A A2 A3:Option Addr) (n c n2 c2 n3 c3:Nat) (D:List (Int × Ls)) (M:List Int) (T:List (Int × Int)) (w:World)
theorem rmark_any {K:Nat->Prop} (id th:Int) (h:DkK K w ⟨A,n,c,A2,n2,c2,A3,n3,c3⟩ D M T) (an:∀ g,w.heap.size<=g->K g) (aU:Nd D) (hn:n<=1000) (aS:n2<=1000) (aT:n3<=1000) :
  Calls Tryz.prog 87 #[.agg #[.int .u64 leak,.slice A n c,.slice A2 n2 c2,.slice A3 n3 c3],.int .u64 id,.int .i64 th] w fun e w'=>∃ d:Da,e=.returned (.tuple #[d.val leak,.int .i64 (wr D id th)])/\DkK K w' d D (if holds D id th=true then M.filter (· != id) ++ [id] else M) T/\Below w.heap.size w w':=by
 obtain⟨ad,aw,ax,av⟩:=boxes leak A A2 A3 n c n2 c2 n3 c3 w
 have HD:=Lh h
 have ag:=Lh an
 clear an
 have Y:=Lh ad
 have a6:=Lh aw
 have a7:=Lh ax
 have a0:=Lh av
 have HH:=Lh (rholds_any leak A A2 A3 n c n2 c2 n3 c3 D ((w.alloc (.cells #[.int .u64 leak,.slice A n c,.slice A2 n2 c2,.slice A3 n3 c3] 38)).alloc (.cells #[.int .u64 0,.slice none 0 0,.slice none 0 0,.slice none 0 0] 38)) id th (h.l.later ad) (by omega))
 have aB:Hid (D.length=n):=Lh h.l.len
 have aC:Hid (M.length=n2):=Lh h.m.len
 have aP:Hid (T.length=n3):=Lh h.t.len
 clear h ad aw ax av
 obtain⟨i0,hi,aL,aM,aN⟩:=info_parts info_u64'
 unfold wr
 by_cases G:holds D id th=true
 .rw[if_pos G,if_pos G]
  obtain⟨k,y,hk,aI,ao⟩:∃ (k:Nat) (y:Ls),D[k]? = some (id,y)/\(∀ a∈D.take k,a.1≠id)/\hx D id th=k:=by
   rcases fx_cases D id with ⟨h1,h2⟩ | ⟨k,y,h1,h2,h3,h4⟩
   .unfold holds at G; rw[h1] at G; cases G
   .exact⟨k,y,h1,h2,by unfold hx; rw[if_pos G,h3]⟩
  rw[ao] at HH
  have aR:k < n:=by have:=(List.getElem?_eq_some_iff.1 hk).1; have:=aB.out; omega
  have aQ:decide ((k:Int) < 0)=false:=decide_eq_false (by omega)
  clear hk aI ao G
  go_enter Tryz.func87,Tryz.ntmps87
  go_wp2_with fail
  refine HH.out.mono ?_
  rintro e I ⟨rfl,J⟩
  have a5:=Lh (Y.out.trans (J.mono Y.out.size))
  have VF:=Lh (a6.out.below J (by have:=a0.out; omega))
  have VR:=Lh (a7.out.below J (by have:=a0.out; omega))
  obtain⟨⟨f0,f1,f2,f3⟩,g0,g1,g2,g3⟩:=VF.out
  have aJ:w.heap.size+2<=I.heap.size:=by have:=J.size; have:=a0.out; omega
  clear J a6 a7 Y HH
  go_wp2_with fail
  refine (rforget_any leak A A2 A3 n c n2 c2 n3 c3 D M T I id (HD.out.later a5.out) (fun g hg=>ag.out g (by omega)) (by omega)).mono ?_
  rintro e F ⟨z,c5,rfl,ac,a8,a3⟩
  obtain⟨Q,hQ⟩:∃ Q,M.filter (· != id)=Q:=⟨_,rfl⟩
  have aF:Q.length<=1000:=by rw[<- hQ]; have:=List.length_filter_le (· != id) M; have:=aC.out; omega
  rw[hQ] at ac a8 ⊢
  obtain⟨q,hq⟩:∃ q,Q.length=q:=⟨_,rfl⟩
  rw[hq] at ac a8 aF ⊢
  have af:=Lh (a5.out.trans (a3.mono (by omega)))
  obtain⟨⟨f0,f1,f2,f3⟩,g0,g1,g2,g3⟩:=VF.out.below a3 (by omega)
  have ak:=Lh (VR.out.below a3 (by omega))
  have aV:I.heap.size<=F.heap.size:=a3.size
  have a9:=Lh a8
  have aE:=Lh hQ
  have aO:=Lh hq
  clear a3 ac a8 hQ hq VF VR
  go_upto_region 4 with (fail)
  have aH:Below I.heap.size ((((F.setCell ⟨w.heap.size,0,none⟩ (.int .u64 leak)).setCell ⟨w.heap.size,1,none⟩ (.slice A n c)).setCell ⟨w.heap.size,2,none⟩ (.slice z q c5)).setCell ⟨w.heap.size,3,none⟩ (.slice A3 n3 c3)) ((((F.setCell ⟨w.heap.size,0,none⟩ (.int .u64 leak)).setCell ⟨w.heap.size,1,none⟩ (.slice A n c)).setCell ⟨w.heap.size,2,none⟩ (.slice z q c5)).setCell ⟨w.heap.size,3,none⟩ (.slice A3 n3 c3)):=Below.refl _ _
  have ah:Hid (((((F.setCell ⟨w.heap.size,0,none⟩ (.int .u64 leak)).setCell ⟨w.heap.size,1,none⟩ (.slice A n c)).setCell ⟨w.heap.size,2,none⟩ (.slice z q c5)).setCell ⟨w.heap.size,3,none⟩ (.slice A3 n3 c3)).ownsRow I.heap.size 25 1 (.slice z q c5) q (Q.map (Value.int .u64))):=Lh (by
   refine Hi.owS a9.out (fun u ae=>?_)
   have hg:=(a9.out.lt u ae).1
   rw[heap_setCell_other _ _ u _ (fun e=>by have e:u=w.heap.size:=e; omega),heap_setCell_other _ _ u _ (fun e=>by have e:u=w.heap.size:=e; omega),heap_setCell_other _ _ u _ (fun e=>by have e:u=w.heap.size:=e; omega),heap_setCell_other _ _ u _ (fun e=>by have e:u=w.heap.size:=e; omega)])
  have ay:Hid (Below w.heap.size w ((((F.setCell ⟨w.heap.size,0,none⟩ (.int .u64 leak)).setCell ⟨w.heap.size,1,none⟩ (.slice A n c)).setCell ⟨w.heap.size,2,none⟩ (.slice z q c5)).setCell ⟨w.heap.size,3,none⟩ (.slice A3 n3 c3))):=Lh (by
   repeat' (first | exact af.out | apply Below.setCell | apply bdN | apply Below.drew | apply Below.alloc)
   all_goals (first | (simp; done) | (simp; omega)))
  have x0:((((F.setCell ⟨w.heap.size,0,none⟩ (.int .u64 leak)).setCell ⟨w.heap.size,1,none⟩ (.slice A n c)).setCell ⟨w.heap.size,2,none⟩ (.slice z q c5)).setCell ⟨w.heap.size,3,none⟩ (.slice A3 n3 c3)).cell? ⟨w.heap.size,0,none⟩=some (.int .u64 leak):=by go_simp
  have x1:((((F.setCell ⟨w.heap.size,0,none⟩ (.int .u64 leak)).setCell ⟨w.heap.size,1,none⟩ (.slice A n c)).setCell ⟨w.heap.size,2,none⟩ (.slice z q c5)).setCell ⟨w.heap.size,3,none⟩ (.slice A3 n3 c3)).cell? ⟨w.heap.size,1,none⟩=some (.slice A n c):=by go_simp
  have x2:((((F.setCell ⟨w.heap.size,0,none⟩ (.int .u64 leak)).setCell ⟨w.heap.size,1,none⟩ (.slice A n c)).setCell ⟨w.heap.size,2,none⟩ (.slice z q c5)).setCell ⟨w.heap.size,3,none⟩ (.slice A3 n3 c3)).cell? ⟨w.heap.size,2,none⟩=some (.slice z q c5):=by go_simp
  have x3:((((F.setCell ⟨w.heap.size,0,none⟩ (.int .u64 leak)).setCell ⟨w.heap.size,1,none⟩ (.slice A n c)).setCell ⟨w.heap.size,2,none⟩ (.slice z q c5)).setCell ⟨w.heap.size,3,none⟩ (.slice A3 n3 c3)).cell? ⟨w.heap.size,3,none⟩=some (.slice A3 n3 c3):=by go_simp
  have y0:((((F.setCell ⟨w.heap.size,0,none⟩ (.int .u64 leak)).setCell ⟨w.heap.size,1,none⟩ (.slice A n c)).setCell ⟨w.heap.size,2,none⟩ (.slice z q c5)).setCell ⟨w.heap.size,3,none⟩ (.slice A3 n3 c3)).frozen? ⟨w.heap.size,0,none⟩=false:=by go_simp
  have y1:((((F.setCell ⟨w.heap.size,0,none⟩ (.int .u64 leak)).setCell ⟨w.heap.size,1,none⟩ (.slice A n c)).setCell ⟨w.heap.size,2,none⟩ (.slice z q c5)).setCell ⟨w.heap.size,3,none⟩ (.slice A3 n3 c3)).frozen? ⟨w.heap.size,1,none⟩=false:=by go_simp
  have y2:((((F.setCell ⟨w.heap.size,0,none⟩ (.int .u64 leak)).setCell ⟨w.heap.size,1,none⟩ (.slice A n c)).setCell ⟨w.heap.size,2,none⟩ (.slice z q c5)).setCell ⟨w.heap.size,3,none⟩ (.slice A3 n3 c3)).frozen? ⟨w.heap.size,2,none⟩=false:=by go_simp
  have y3:((((F.setCell ⟨w.heap.size,0,none⟩ (.int .u64 leak)).setCell ⟨w.heap.size,1,none⟩ (.slice A n c)).setCell ⟨w.heap.size,2,none⟩ (.slice z q c5)).setCell ⟨w.heap.size,3,none⟩ (.slice A3 n3 c3)).frozen? ⟨w.heap.size,3,none⟩=false:=by go_simp
  have V5:Hid (V4 ((((F.setCell ⟨w.heap.size,0,none⟩ (.int .u64 leak)).setCell ⟨w.heap.size,1,none⟩ (.slice A n c)).setCell ⟨w.heap.size,2,none⟩ (.slice z q c5)).setCell ⟨w.heap.size,3,none⟩ (.slice A3 n3 c3)) w.heap.size (.int .u64 leak) (.slice A n c) (.slice z q c5) (.slice A3 n3 c3)):=Lh ⟨⟨x0,x1,x2,x3⟩,y0,y1,y2,y3⟩
  have al:Hid (V4 ((((F.setCell ⟨w.heap.size,0,none⟩ (.int .u64 leak)).setCell ⟨w.heap.size,1,none⟩ (.slice A n c)).setCell ⟨w.heap.size,2,none⟩ (.slice z q c5)).setCell ⟨w.heap.size,3,none⟩ (.slice A3 n3 c3)) (w.heap.size+1) (.int .u64 0) (.slice none 0 0) (.slice none 0 0) (.slice none 0 0)):=Lh (by
   obtain⟨⟨r0,r1,r2,r3⟩,z0,z1,z2,z3⟩:=ak.out
   exact⟨⟨by go_simp,by go_simp,by go_simp,by go_simp⟩,by go_simp,by go_simp,by go_simp,by go_simp⟩)
  have aK:((((F.setCell ⟨w.heap.size,0,none⟩ (.int .u64 leak)).setCell ⟨w.heap.size,1,none⟩ (.slice A n c)).setCell ⟨w.heap.size,2,none⟩ (.slice z q c5)).setCell ⟨w.heap.size,3,none⟩ (.slice A3 n3 c3)).heap.size=F.heap.size:=by simp
  clear f0 f1 f2 f3 g0 g1 g2 g3 aH ak a9 af x0 x1 x3 y0 y1 y2 y3 x2
  generalize ((((F.setCell ⟨w.heap.size,0,none⟩ (.int .u64 leak)).setCell ⟨w.heap.size,1,none⟩ (.slice A n c)).setCell ⟨w.heap.size,2,none⟩ (.slice z q c5)).setCell ⟨w.heap.size,3,none⟩ (.slice A3 n3 c3))=w5 at *
  have aW:F.heap.size<=w5.heap.size:=by omega
  clear aK
  obtain⟨⟨x0,x1,x2,x3⟩,y0,y1,y2,y3⟩:=V5.out
  have aj:=Lh (rd_one (enc:=Value.int .u64) w5 id 25)
  have aa:=Lh (ah.out.alloc (.cells #[.int .u64 id] 25))
  have az:=Lh ((Below.refl I.heap.size w5).alloc (by omega) (.cells #[.int .u64 id] 25))
  have aD:Hid (Q.map (Value.int .u64) ++ [id].map (Value.int .u64)=(Q ++ [id]).map (Value.int .u64)):=Lh (by simp)
  go_wp2_with (
   at_builtin
   refine apRd _ rfl _ _ 30 rfl I.heap.size 25 i0 (.int .u64 0) 8 Tryz.underlying30 hi aL aM aN rfl _ q _ rfl aa.out _ _ 1 1 [id] rfl aj.out (fun _=>rfl) (q+1) rfl _ aD.out (by unfold maxLen; omega) (by omega) (by simp; omega) ?_
   intro W c7 w7 ar aq aG
   have a2:Below I.heap.size w5 w7:=az.out.grown aq (by simp; omega) (fun j hj=>(aa.out.lt j hj).1)
   have ai:=Lh ar
   have aA:=Lh (ay.out.trans (a2.mono (by omega)))
   obtain⟨⟨f0,f1,f2,f3⟩,g0,g1,g2,g3⟩:=V5.out.below a2 (by omega)
   obtain⟨⟨r0,r1,r2,r3⟩,z0,z1,z2,z3⟩:=al.out.below a2 (by omega)
   have aX:I.heap.size<=w7.heap.size:=by have:=a2.size; omega
   clear a2 ar aq aG x0 x1 x2 x3 y0 y1 y2 y3 V5 al ah aa aj)
  have a4:Below w.heap.size w (((((w7.setCell ⟨w.heap.size,2,none⟩ (.slice W (q+1) c7)).setCell ⟨w.heap.size+1,0,none⟩ (.int .u64 leak)).setCell ⟨w.heap.size+1,1,none⟩ (.slice A n c)).setCell ⟨w.heap.size+1,2,none⟩ (.slice W (q+1) c7)).setCell ⟨w.heap.size+1,3,none⟩ (.slice A3 n3 c3)):=by
   repeat' (first | exact aA.out | apply Below.setCell | apply bdN | apply Below.drew | apply Below.alloc)
   all_goals (first | (simp; done) | (simp; omega))
  have au:(((((w7.setCell ⟨w.heap.size,2,none⟩ (.slice W (q+1) c7)).setCell ⟨w.heap.size+1,0,none⟩ (.int .u64 leak)).setCell ⟨w.heap.size+1,1,none⟩ (.slice A n c)).setCell ⟨w.heap.size+1,2,none⟩ (.slice W (q+1) c7)).setCell ⟨w.heap.size+1,3,none⟩ (.slice A3 n3 c3)).ownsRow I.heap.size 25 1 (.slice W (q+1) c7) (q+1) ((Q ++ [id]).map (Value.int .u64)):=by
   refine Hi.owS ai.out (fun u ae=>?_)
   have hg:=(ai.out.lt u ae).1
   rw[heap_setCell_other _ _ u _ (fun e=>by have e:u=w.heap.size+1:=e; omega),heap_setCell_other _ _ u _ (fun e=>by have e:u=w.heap.size+1:=e; omega),heap_setCell_other _ _ u _ (fun e=>by have e:u=w.heap.size+1:=e; omega),heap_setCell_other _ _ u _ (fun e=>by have e:u=w.heap.size+1:=e; omega),heap_setCell_other _ _ u _ (fun e=>by have e:u=w.heap.size:=e; omega)]
  have a1:=HD.out.later a4
  refine bodyPost_ret (v:=.tuple #[.agg #[.int .u64 leak,.slice A n c,.slice W (q+1) c7,.slice A3 n3 c3],.int .i64 0]) (by simp[results,Tryz.results87,go_sem,r0,r1,r2,r3]) rfl ⟨⟨A,n,c,W,q+1,c7,A3,n3,c3⟩,rfl,⟨a1.l,by rw[aE.out]; exact Rd.own_rd au,a1.t,a1.fm,a1.fl,a1.kl,Kn.own au (fun g hg=>ag.out g (by omega)),a1.kt⟩,a4⟩
 .rw[if_neg G,if_neg G]
  have G:holds D id th=false:=by simpa using G
  have e5:hx D id th = -1:=by unfold hx; rw[if_neg (by rw[G]; decide)]
  rw[e5] at HH
  clear e5 G
  go_enter Tryz.func87,Tryz.ntmps87
  go_wp2_with fail
  refine HH.out.mono ?_
  rintro e I ⟨rfl,J⟩
  have a5:=Lh (Y.out.trans (J.mono Y.out.size))
  obtain⟨⟨f0,f1,f2,f3⟩,g0,g1,g2,g3⟩:=a6.out.below J (by have:=a0.out; omega)
  obtain⟨⟨r0,r1,r2,r3⟩,z0,z1,z2,z3⟩:=a7.out.below J (by have:=a0.out; omega)
  have aJ:w.heap.size+2<=I.heap.size:=by have:=J.size; have:=a0.out; omega
  clear J a6 a7 Y HH
  go_wp2_with fail
  have a4:Below w.heap.size w ((((I.setCell ⟨w.heap.size+1,0,none⟩ (.int .u64 leak)).setCell ⟨w.heap.size+1,1,none⟩ (.slice A n c)).setCell ⟨w.heap.size+1,2,none⟩ (.slice A2 n2 c2)).setCell ⟨w.heap.size+1,3,none⟩ (.slice A3 n3 c3)):=by
   repeat' (first | exact a5.out | apply Below.setCell | apply bdN | apply Below.drew | apply Below.alloc)
   all_goals (first | (simp; done) | (simp; omega))
  refine bodyPost_ret (v:=.tuple #[.agg #[.int .u64 leak,.slice A n c,.slice A2 n2 c2,.slice A3 n3 c3],.int .i64 5]) (by simp[results,Tryz.results87,go_sem,r0,r1,r2,r3]) rfl ⟨⟨A,n,c,A2,n2,c2,A3,n3,c3⟩,rfl,HD.out.later a4,a4⟩
end
end Go.Proofs.YtoiklelghfckgaaGreatDoor.Le
end
section
set_option maxRecDepth 100000
set_option maxHeartbeats 8000000
set_option linter.unusedVariables false
namespace Go.Proofs.YtoiklelghfckgaaGreatDoor.Fc
open Go Go.ChangeShapes Go.WideShapes Go.ChangeAt Go.RowKit Go.Deep Go.Maps Rw
section
variable {H:Type} {en:TypeId × Value->H} {P:Program} {w:World} {base:Nat} {spare:Nat->Bool} {held:Bool}
end
structure Ac where
 do_:Int
 id:Int
structure Ac.ok (a:Ac):Prop where
 do_:0<=a.do_/\a.do_<=255
 id:0<=a.id/\a.id<=18446744073709551615
end Go.Proofs.YtoiklelghfckgaaGreatDoor.Fc
namespace Go.Proofs.YtoiklelghfckgaaGreatDoor.Fc
open Go.ChangeShapes Go.WideShapes Go.ChangeAt Go.RowKit Go.Maps Rw
structure Rn (w:World) (p m:Nat) (A:Option Addr) (n c:Nat) (O:List Bool):Prop where
 rd:Rd Value.bool w w.heap.size A n c O
 ne:0 < n -> ∀ g o,A=some ⟨g,o,none⟩->g≠p/\g≠m
def Sh (n:Nat) (C:List Int) (S:List Bool):Prop:=S.length=n /\ ∀ (i:Nat) x,S[i]? = some x->x=decide ((i:Int)+1∈C)
theorem Sh.nil_:Sh 0 [] []:=⟨rfl,fun i x h=>by simp at h⟩
theorem Sh.snoc {n:Nat} {C:List Int} {S:List Bool} (h:Sh n C S) (u:∀ x∈C,1<=x/\x<=n):Sh (n+1) C (S ++ [false]):=by
 refine⟨by simp[h.1],fun i x hx=>?_⟩
 by_cases hi:i < n
 .rw[List.getElem?_append_left (by rw[h.1]; exact hi)] at hx
  exact h.2 i x hx
 .have z:=(List.getElem?_eq_some_iff.1 hx).1
  simp[h.1] at z
  obtain rfl:i=n:=by omega
  rw[List.getElem?_append_right (by rw[h.1]; omega),h.1] at hx
  simp at hx
  subst hx
  symm
  exact decide_eq_false (fun F=>by have:=u _ F; omega)
structure Rf (w:World) (p m:Nat) (v:Value) (O P:List Bool) (n:Nat) (C:List Int):Prop where
 form:∃ A1 n1 c1 A2 n2 c2 A3 c3 S,v=.agg #[.slice A1 n1 c1,.slice A2 n2 c2,.slice A3 n c3] /\ Rn w p m A1 n1 c1 O/\Rn w p m A2 n2 c2 P/\Rn w p m A3 n c3 S/\Sh n C S
def V3 (w:World) (g:Nat) (a b c:Value):Prop:=(w.cell? ⟨g,0,none⟩=some a/\w.cell? ⟨g,1,none⟩=some b/\w.cell? ⟨g,2,none⟩=some c)/\w.frozen? ⟨g,0,none⟩=false/\w.frozen? ⟨g,1,none⟩=false/\w.frozen? ⟨g,2,none⟩=false
theorem V3.below {w w':World} {g B:Nat} {a b c:Value} (h:V3 w g a b c) (u:Below B w w') (z:g < B):V3 w' g a b c:=
 ⟨⟨(u.cell (p:=⟨g,0,none⟩) z).trans h.1.1,(u.cell (p:=⟨g,1,none⟩) z).trans h.1.2.1,(u.cell (p:=⟨g,2,none⟩) z).trans h.1.2.2⟩,(u.frozen (p:=⟨g,0,none⟩) z).trans h.2.1,(u.frozen (p:=⟨g,1,none⟩) z).trans h.2.2.1,(u.frozen (p:=⟨g,2,none⟩) z).trans h.2.2.2⟩
theorem V3.new (w:World) (a b c:Value) (t:TypeId):V3 (w.alloc (.cells #[a,b,c] t)) w.heap.size a b c:=by
 refine⟨⟨?_,?_,?_⟩,?_,?_,?_⟩ <;> simp
end Go.Proofs.YtoiklelghfckgaaGreatDoor.Fc
namespace Go.Proofs.YtoiklelghfckgaaGreatDoor.Fk
open Go.ChangeShapes Go.WideShapes Go.ChangeAt Go.RowKit Go.Maps Rw Fc
structure Rn (K:Nat->Prop) (w:World) (A:Option Addr) (n c:Nat) (O:List Bool):Prop where
 rd:Rd Value.bool w w.heap.size A n c O
 ne:0 < n -> ∀ g o,A=some ⟨g,o,none⟩->K g
theorem Rn.nil_ (K:Nat->Prop) (w:World):Rn K w none 0 0 []:=⟨Rd.nil_,fun h=>absurd h (by omega)⟩
theorem Rn.below {K:Nat->Prop} {w w':World} {A:Option Addr} {n c:Nat} {O:List Bool} (h:Rn K w A n c O) (u:Below w.heap.size w w'):Rn K w' A n c O:=⟨h.rd.later u,h.ne⟩
theorem Rn.of_own {w:World} {K:Nat->Prop} {base:Nat} {A:Option Addr} {n c:Nat} {O:List Bool} (h:w.ownsRow base 4 1 (.slice A n c) n (O.map Value.bool)) (z:∀ g,base<=g->K g):Rn K w A n c O:=by
 refine⟨Rd.own_rd h,fun hn g o e=>?_⟩
 have:=(h.lt g (by
  rw[e]; rcases h.2 with ⟨u,G⟩ | ⟨I,cap,F,u,_⟩
  .omega
  .injection u with u _ _
   rw[e] at u
   injection u with u
   injection u with u e2
   subst e2
   rfl)).1
 exact z _ this
theorem rnext_any (A:Option Addr) {K:Nat->Prop} (n c:Nat) (O:List Bool) (w:World) (h:Rn K w A n c O) :
  Calls Tryz.prog 129 #[.slice A n c] w fun e w'=>∃ A' F z q,e=.returned (.tuple #[.slice A' F z,.bool (nx O).1])/\(∀ W,Rn K W A n c O->Rn K W A' F z (nx O).2)/\w.drewN q=w':=by
 cases O with
 | nil=>
  obtain rfl:0=n:=h.rd.len
  clear h
  go_enter Tryz.func129,Tryz.ntmps129
  go_wp2_with fail
  exact bodyPost_ret (v:=.tuple #[.slice none 0 0,.bool true]) (by simp[results,Tryz.results129,go_sem]) rfl ⟨none,0,0,0,rfl,fun W _=>Rn.nil_ K W,rfl⟩
 | cons x l=>
  have hn:(x :: l).length=n:=h.rd.len
  simp at hn
  have a1:=h.rd.cap
  have a2:=h.rd.top
  obtain⟨g,o,y,rfl,Y,hx,G⟩:=h.rd.get (k:=0) (by omega)
  obtain rfl:x=y:=by simpa using hx
  have hz:((n:Int) == 0)=false:=by simp; omega
  have a3:(n == 0)=false:=by simp; omega
  have a0:1<=n:=by omega
  simp only[Nat.add_zero] at G
  have I:=Lh h
  clear h hx hn
  by_cases hc1:c=1
  .subst hc1
   obtain rfl:n=1:=by omega
   go_enter Tryz.func129,Tryz.ntmps129
   go_wp2_with fail
   go_region
   go_wp2_with fail
   exact bodyPost_ret (v:=.tuple #[.slice (some ⟨g,o,none⟩) 0 0,.bool x]) (by simp[results,Tryz.results129,go_sem]) rfl ⟨_,_,_,1,rfl,fun W u=>⟨u.rd.back (i:=1) (A':=some ⟨g,o,none⟩) (by omega) rfl (by omega),fun hk=>absurd hk (by omega)⟩,rfl⟩
  .have Q:1 < c:=by omega
   go_enter Tryz.func129,Tryz.ntmps129
   go_wp2_with fail
   go_region
   go_wp2_with fail
   exact bodyPost_ret (v:=.tuple #[.slice (some ⟨g,o+1,none⟩) (n - 1) (c - 1),.bool x]) (by simp[results,Tryz.results129,go_sem]) rfl ⟨_,_,_,1,rfl,fun W u=>⟨u.rd.back (i:=1) (A':=some ⟨g,o+1,none⟩) (by omega) rfl (fun _=>rfl),fun _ J o' e=>by
    injection e with e
    injection e with e1 e2
    subst e1
    exact u.ne (by omega) g o rfl⟩,rfl⟩
structure Rf (K:Nat->Prop) (w:World) (v:Value) (O P:List Bool) (n:Nat) (C:List Int):Prop where
 form:∃ A1 n1 c1 A2 n2 c2 A3 c3 S,v=.agg #[.slice A1 n1 c1,.slice A2 n2 c2,.slice A3 n c3] /\ Rn K w A1 n1 c1 O/\Rn K w A2 n2 c2 P/\Rn K w A3 n c3 S/\Sh n C S
theorem Rf.below {K:Nat->Prop} {w w':World} {n:Nat} {v:Value} {O P:List Bool} {C:List Int} (h:Rf K w v O P n C) (u:Below w.heap.size w w'):Rf K w' v O P n C:=by
 obtain⟨z,Q,c1,A2,n2,c2,A3,c3,S,e,F,G,I,J⟩:=h.form
 exact⟨⟨z,Q,c1,A2,n2,c2,A3,c3,S,e,F.below u,G.below u,I.below u,J⟩⟩
theorem ropen_any {K:Nat->Prop} (v:Value) (n:Nat) (O P:List Bool) (C:List Int) (w:World) (h:Rf K w v O P n C) (hn:n<=1000) (hC:∀ x∈C,1<=x/\x<=n) (ao:∀ g,w.heap.size<=g->K g) :
  Calls Tryz.prog 72 #[v] w fun e w'=>∃ v',e=.returned (.tuple #[v',.int .u64 (if (nx O).1 then (n:Int)+1 else 0),.bool (nx O).1])/\Rf K w' v' (nx O).2 P (if (nx O).1 then n+1 else n) C/\Below w.heap.size w w':=by
 have aH:=Lh ao
 clear ao
 obtain⟨i0,hi,aB,aC,aD⟩:=info_parts info_bool
 obtain⟨u,z,c1,A2,n2,c2,A3,c3,S,rfl,h1,h2,h3,h4⟩:=h.form
 have HH:=Lh h
 have H1:=Lh h1
 have H2:=Lh h2
 have H3:=Lh h3
 have H4:=Lh h4
 clear h h1 h2 h3 h4
 have aq:Below w.heap.size w (w.alloc (.cells #[.slice u z c1,.slice A2 n2 c2,.slice A3 n c3] 41)):=(Below.refl _ _).alloc (Nat.le_refl _) _
 have a8:Below w.heap.size w ((w.alloc (.cells #[.slice u z c1,.slice A2 n2 c2,.slice A3 n c3] 41)).alloc (.cells #[.slice none 0 0,.slice none 0 0,.slice none 0 0] 41)):=aq.alloc (by simp) _
 have az:V3 ((w.alloc (.cells #[.slice u z c1,.slice A2 n2 c2,.slice A3 n c3] 41)).alloc (.cells #[.slice none 0 0,.slice none 0 0,.slice none 0 0] 41)) w.heap.size (.slice u z c1) (.slice A2 n2 c2) (.slice A3 n c3):=(V3.new w _ _ _ _).below ((Below.refl (w.heap.size+1) _).alloc (by simp) _) (by omega)
 have aA:V3 ((w.alloc (.cells #[.slice u z c1,.slice A2 n2 c2,.slice A3 n c3] 41)).alloc (.cells #[.slice none 0 0,.slice none 0 0,.slice none 0 0] 41)) (w.heap.size+1) (.slice none 0 0) (.slice none 0 0) (.slice none 0 0):=by have:=V3.new (w.alloc (.cells #[.slice u z c1,.slice A2 n2 c2,.slice A3 n c3] 41)) (.slice none 0 0) (.slice none 0 0) (.slice none 0 0) 41; rw[show (w.alloc (.cells #[.slice u z c1,.slice A2 n2 c2,.slice A3 n c3] 41)).heap.size=w.heap.size+1 by simp] at this; exact this
 have HB:=Lh a8
 have a6:=Lh az
 have a7:=Lh aA
 have ay:((w.alloc (.cells #[.slice u z c1,.slice A2 n2 c2,.slice A3 n c3] 41)).alloc (.cells #[.slice none 0 0,.slice none 0 0,.slice none 0 0] 41)).heap.size=w.heap.size+2:=by simp
 have HC:=Lh hC
 have ad:=Lh a8
 have RN:=rnext_any u z c1 O _ (H1.out.below a8)
 have a5:=Lh RN
 clear aq a8 az aA RN hC
 generalize nx O=r at *
 obtain⟨ok,l⟩:=r
 cases ok
 .simp only[Bool.false_eq_true,if_false]
  go_enter Tryz.func72,Tryz.ntmps72
  go_wp2_with fail
  refine a5.out.mono ?_
  rintro e Q ⟨A',I,G,q,rfl,a4,rfl⟩
  have a2:Below (w.heap.size+2) ((w.alloc (.cells #[.slice u z c1,.slice A2 n2 c2,.slice A3 n c3] 41)).alloc (.cells #[.slice none 0 0,.slice none 0 0,.slice none 0 0] 41)) (((w.alloc (.cells #[.slice u z c1,.slice A2 n2 c2,.slice A3 n c3] 41)).alloc (.cells #[.slice none 0 0,.slice none 0 0,.slice none 0 0] 41)).drewN q):=bdN (Below.refl _ _) q
  have a3:=HB.out.trans (bdN (Below.refl w.heap.size _) q)
  obtain⟨⟨f0,f1,f2⟩,g0,g1,g2⟩:=a6.out.below a2 (by omega)
  obtain⟨⟨r0,r1,r2⟩,e0,e1,e2⟩:=a7.out.below a2 (by omega)
  have aO:(((w.alloc (.cells #[.slice u z c1,.slice A2 n2 c2,.slice A3 n c3] 41)).alloc (.cells #[.slice none 0 0,.slice none 0 0,.slice none 0 0] 41)).drewN q).heap.size=w.heap.size+2:=by simp
  have HN:=Lh a4
  have a1:=Lh a3
  clear HB a2 a6 a7 ay a5 a3 ad a4
  generalize (((w.alloc (.cells #[.slice u z c1,.slice A2 n2 c2,.slice A3 n c3] 41)).alloc (.cells #[.slice none 0 0,.slice none 0 0,.slice none 0 0] 41)).drewN q)=Q at *
  go_wp2_with fail
  have a0:Below w.heap.size w ((((Q.setCell ⟨w.heap.size,0,none⟩ (.slice A' I G)).setCell ⟨w.heap.size+1,0,none⟩ (.slice A' I G)).setCell ⟨w.heap.size+1,1,none⟩ (.slice A2 n2 c2)).setCell ⟨w.heap.size+1,2,none⟩ (.slice A3 n c3)):=by
   repeat' (first | exact a1.out | apply Below.setCell | apply bdN | apply Below.drew | apply Below.alloc)
   all_goals (first | (simp; done) | (simp; omega))
  refine bodyPost_ret (v:=.tuple #[.agg #[.slice A' I G,.slice A2 n2 c2,.slice A3 n c3],.int .u64 0,.bool false]) (by simp[results,Tryz.results72,go_sem,r0,r1,r2]) rfl ⟨_,rfl,⟨⟨_,_,_,_,_,_,_,_,_,rfl,HN.out _ (H1.out.below a0),H2.out.below a0,H3.out.below a0,H4.out⟩⟩,a0⟩
 .simp only[if_true]
  go_enter Tryz.func72,Tryz.ntmps72
  go_wp2_with fail
  refine a5.out.mono ?_
  rintro e Q ⟨A',I,G,q,rfl,a4,rfl⟩
  have a2:Below (w.heap.size+2) ((w.alloc (.cells #[.slice u z c1,.slice A2 n2 c2,.slice A3 n c3] 41)).alloc (.cells #[.slice none 0 0,.slice none 0 0,.slice none 0 0] 41)) (((w.alloc (.cells #[.slice u z c1,.slice A2 n2 c2,.slice A3 n c3] 41)).alloc (.cells #[.slice none 0 0,.slice none 0 0,.slice none 0 0] 41)).drewN q):=bdN (Below.refl _ _) q
  have a3:=HB.out.trans (bdN (Below.refl w.heap.size _) q)
  obtain⟨⟨f0,f1,f2⟩,g0,g1,g2⟩:=a6.out.below a2 (by omega)
  obtain⟨⟨r0,r1,r2⟩,e0,e1,e2⟩:=a7.out.below a2 (by omega)
  have aO:(((w.alloc (.cells #[.slice u z c1,.slice A2 n2 c2,.slice A3 n c3] 41)).alloc (.cells #[.slice none 0 0,.slice none 0 0,.slice none 0 0] 41)).drewN q).heap.size=w.heap.size+2:=by simp
  have HN:=Lh a4
  have a1:=Lh a3
  clear HB a2 a6 a7 ay a5 a3 ad a4
  generalize (((w.alloc (.cells #[.slice u z c1,.slice A2 n2 c2,.slice A3 n c3] 41)).alloc (.cells #[.slice none 0 0,.slice none 0 0,.slice none 0 0] 41)).drewN q)=Q at *
  have ar:Below w.heap.size w (Q.setCell ⟨w.heap.size,0,none⟩ (.slice A' I G)):=a1.out.setCell (Nat.le_refl _) _
  have ax:=(H3.out.below ar).rd
  have af:=Lh ax
  have b3:n<=1000:=hn
  clear ar ax
  go_wp2_with (
   at_builtin
   refine apRd _ rfl _ _ 39 rfl (w.heap.size+2) 4 i0 (.bool false) 1 Tryz.underlying39 hi aB aC aD rfl _ 0 [] rfl (World.ownsRow_nil _ _ _ _) _ A3 n c3 S rfl af.out one_bool n (Nat.zero_add _) (S.map Value.bool) rfl (by unfold maxLen; omega) (by omega) (by simp; omega) ?_
   intro A5 c5 J aa au aJ
   refine Hid.out ?_)
  refine Lh ?_
  have aM:Q.grownBy J none\/True:=.inr trivial
  have aN:=aa.lt
  have aL:(Q.setCell ⟨w.heap.size,0,none⟩ (.slice A' I G)).heap.size=Q.heap.size:=by simp
  have W:Below (w.heap.size+2) (Q.setCell ⟨w.heap.size,0,none⟩ (.slice A' I G)) J:=(Below.refl _ _).grown au (by omega) (fun j hj=>by cases hj)
  have aj:J.cell? ⟨w.heap.size,0,none⟩=some (.slice A' I G):=(W.cell (p:=⟨w.heap.size,0,none⟩) (by simp)).trans (World.cell?_setCell_same _ _ _ f0)
  have ak:J.cell? ⟨w.heap.size,1,none⟩=some (.slice A2 n2 c2):=(W.cell (p:=⟨w.heap.size,1,none⟩) (by simp)).trans ((setCell_ne Q 0 1 _ (by omega)).trans f1)
  have al:J.cell? ⟨w.heap.size,2,none⟩=some (.slice A3 n c3):=(W.cell (p:=⟨w.heap.size,2,none⟩) (by simp)).trans ((setCell_ne Q 0 2 _ (by omega)).trans f2)
  have an:J.frozen? ⟨w.heap.size,2,none⟩=false:=(W.frozen (p:=⟨w.heap.size,2,none⟩) (by simp)).trans (by simpa using g2)
  have ro (o:Nat):(Q.setCell ⟨w.heap.size,0,none⟩ (.slice A' I G)).cell? ⟨w.heap.size+1,o,none⟩=Q.cell? ⟨w.heap.size+1,o,none⟩:=World.cell?_setCell_other _ _ _ _ (fun e=>by injection e with e; omega)
  have aE:J.cell? ⟨w.heap.size+1,0,none⟩=some (.slice none 0 0):=(W.cell (p:=⟨w.heap.size+1,0,none⟩) (by simp)).trans ((ro 0).trans r0)
  have aF:J.cell? ⟨w.heap.size+1,1,none⟩=some (.slice none 0 0):=(W.cell (p:=⟨w.heap.size+1,1,none⟩) (by simp)).trans ((ro 1).trans r1)
  have aG:J.cell? ⟨w.heap.size+1,2,none⟩=some (.slice none 0 0):=(W.cell (p:=⟨w.heap.size+1,2,none⟩) (by simp)).trans ((ro 2).trans r2)
  have ag:J.frozen? ⟨w.heap.size+1,0,none⟩=false:=(W.frozen (p:=⟨w.heap.size+1,0,none⟩) (by simp)).trans (by simpa using e0)
  have ah:J.frozen? ⟨w.heap.size+1,1,none⟩=false:=(W.frozen (p:=⟨w.heap.size+1,1,none⟩) (by simp)).trans (by simpa using e1)
  have ai:J.frozen? ⟨w.heap.size+1,2,none⟩=false:=(W.frozen (p:=⟨w.heap.size+1,2,none⟩) (by simp)).trans (by simpa using e2)
  have ac:=Lh ((a1.out.setCell (Nat.le_refl _) _:Below w.heap.size w (Q.setCell ⟨w.heap.size,0,none⟩ (.slice A' I G))).trans (W.mono (by omega)))
  have aP:w.heap.size+2<=J.heap.size:=by have:=W.size; omega
  have a9:=Lh aa
  clear f0 f1 f2 g0 g1 g2 r0 r1 r2 e0 e1 e2 ro W a1 aa au aJ aN aL aM af
  go_wp2_with (
   at_builtin
   refine apRd _ rfl _ _ 39 rfl (w.heap.size+2) 4 i0 (.bool false) 1 Tryz.underlying39 hi aB aC aD rfl _ n _ rfl (a9.out.alloc _) _ _ 1 1 [false] rfl (rd_one J false 4) one_bool (n+1) rfl ((S ++ [false]).map Value.bool) (by simp) (by unfold maxLen; omega) (by omega) (by simp; omega) ?_
   intro A6 c6 F aw av aK
   refine Hid.out ?_)
  refine Lh ?_
  have Y:Below (w.heap.size+2) J F:=((Below.refl _ _).alloc (by omega) _).grown av (by simp; omega) (fun j hj=>(a9.out.lt j hj).1)
  have aW:F.cell? ⟨w.heap.size,0,none⟩=some (.slice A' I G):=(Y.cell (p:=⟨w.heap.size,0,none⟩) (by simp)).trans aj
  have aX:F.cell? ⟨w.heap.size,1,none⟩=some (.slice A2 n2 c2):=(Y.cell (p:=⟨w.heap.size,1,none⟩) (by simp)).trans ak
  have aY:F.cell? ⟨w.heap.size,2,none⟩=some (.slice A3 n c3):=(Y.cell (p:=⟨w.heap.size,2,none⟩) (by simp)).trans al
  have aZ:F.frozen? ⟨w.heap.size,2,none⟩=false:=(Y.frozen (p:=⟨w.heap.size,2,none⟩) (by simp)).trans an
  have aQ:F.cell? ⟨w.heap.size+1,0,none⟩=some (.slice none 0 0):=(Y.cell (p:=⟨w.heap.size+1,0,none⟩) (by simp)).trans aE
  have aR:F.cell? ⟨w.heap.size+1,1,none⟩=some (.slice none 0 0):=(Y.cell (p:=⟨w.heap.size+1,1,none⟩) (by simp)).trans aF
  have aS:F.cell? ⟨w.heap.size+1,2,none⟩=some (.slice none 0 0):=(Y.cell (p:=⟨w.heap.size+1,2,none⟩) (by simp)).trans aG
  have aT:F.frozen? ⟨w.heap.size+1,0,none⟩=false:=(Y.frozen (p:=⟨w.heap.size+1,0,none⟩) (by simp)).trans ag
  have aU:F.frozen? ⟨w.heap.size+1,1,none⟩=false:=(Y.frozen (p:=⟨w.heap.size+1,1,none⟩) (by simp)).trans ah
  have aV:F.frozen? ⟨w.heap.size+1,2,none⟩=false:=(Y.frozen (p:=⟨w.heap.size+1,2,none⟩) (by simp)).trans ai
  have a1:=Lh (ac.out.trans (Y.mono (by omega)))
  have b2:w.heap.size+2<=F.heap.size:=by have:=Y.size; omega
  have ae:=Lh aw
  clear aj ak al an aE aF aG ag ah ai Y ac aw av aK a9 aP
  go_wp2_with fail
  go_region
  go_wp2_with fail
  have a0:Below w.heap.size w (((((F.setCell ⟨w.heap.size,2,none⟩ (.slice A6 (n+1) c6)).setCell ⟨w.heap.size+1,0,none⟩ (.slice A' I G)).setCell ⟨w.heap.size+1,1,none⟩ (.slice A2 n2 c2)).setCell ⟨w.heap.size+1,2,none⟩ (.slice A6 (n+1) c6)).drew):=by
   repeat' (first | exact a1.out | apply Below.setCell | apply bdN | apply Below.drew | apply Below.alloc)
   all_goals (first | (simp; done) | (simp; omega))
  have aI:Rn K (((((F.setCell ⟨w.heap.size,2,none⟩ (.slice A6 (n+1) c6)).setCell ⟨w.heap.size+1,0,none⟩ (.slice A' I G)).setCell ⟨w.heap.size+1,1,none⟩ (.slice A2 n2 c2)).setCell ⟨w.heap.size+1,2,none⟩ (.slice A6 (n+1) c6)).drew) A6 (n+1) c6 (S ++ [false]):=Rn.of_own (base:=w.heap.size+2) (Hi.owS ae.out (fun g hg=>by
   have b0:=(ae.out.lt g hg).1
   show ((((F.setCell ⟨w.heap.size,2,none⟩ (.slice A6 (n+1) c6)).setCell ⟨w.heap.size+1,0,none⟩ (.slice A' I G)).setCell ⟨w.heap.size+1,1,none⟩ (.slice A2 n2 c2)).setCell ⟨w.heap.size+1,2,none⟩ (.slice A6 (n+1) c6)).heap[g]? = F.heap[g]?
   rw[heap_setCell_other _ _ g _ (fun e=>by have e:g=w.heap.size+1:=e; omega),heap_setCell_other _ _ g _ (fun e=>by have e:g=w.heap.size+1:=e; omega),heap_setCell_other _ _ g _ (fun e=>by have e:g=w.heap.size+1:=e; omega),heap_setCell_other _ _ g _ (fun e=>by have e:g=w.heap.size:=e; omega)])) (fun g hg=>aH.out g (by omega))
  refine bodyPost_ret (v:=.tuple #[.agg #[.slice A' I G,.slice A2 n2 c2,.slice A6 (n+1) c6],.int .u64 ((n:Int)+1),.bool true]) (by simp[results,Tryz.results72,go_sem,aQ,aR,aS]) rfl ⟨_,rfl,⟨⟨_,_,_,_,_,_,_,_,_,rfl,HN.out _ (H1.out.below a0),H2.out.below a0,aI,H4.out.snoc HC.out⟩⟩,a0⟩
end Go.Proofs.YtoiklelghfckgaaGreatDoor.Fk
end
section
set_option maxRecDepth 100000
set_option maxHeartbeats 8000000
set_option linter.unusedVariables false
namespace Go.Proofs.YtoiklelghfckgaaGreatDoor.Fc
open Go.ChangeShapes Go.WideShapes Go.ChangeAt Go.RowKit Go.Maps Rw
theorem fclone_any (p b m n:Nat) (O P:List Bool) (C:List Int) (w:World) (h:Fa w b m p O P n C) (hO:O.length<=1000) (hP:P.length<=1000) :
  Calls Tryz.prog 52 #[ptr p] w fun e w'=>∃ m' p',e=.returned (ptr p')/\Fa w' w.heap.size m' p' O P n C/\Below w.heap.size w w':=by
 obtain⟨A0,k0,c0,u,s0⟩:=h.opens
 obtain⟨A1,k1,c1,z,s1⟩:=h.proofs
 have F:=h.many
 have G:=h.map
 have hl:=h.in_
 have au:=h.lt
 have HH:=Lh h
 have ao:=Lh s0
 have aq:=Lh s1
 have l0:k0<=1000:=by have:=s0.rd.len; omega
 have l1:k1<=1000:=by have:=s1.rd.len; omega
 clear h s0 s1 hO hP
 go_enter Tryz.func52,Tryz.ntmps52
 go_wp2_with fail
 refine rgS 19 (fun w'=>w'.cell? ⟨p,0,none⟩=some (.slice A0 k0 c0)/\w'.cell? ⟨p,1,none⟩=some (.slice A1 k1 c1)/\w'.cell? ⟨p,2,none⟩=some (.int .u64 n)/\w'.cell? ⟨p,3,none⟩=some (.map (some m))) (by kernel_rfl) (by kernel_rfl) ?_
 intro hT
 have I:=Lh hT
 clear hT
 refine rq 0 I.out ⟨u,z,F,G⟩ rfl ?_ (hv:=fun w' hw=>by (obtain⟨g0,J,Q,W⟩:=hw; go_simp; exact rfl))
 refine rq 1 I.out ⟨u,z,F,G⟩ rfl ?_ (hv:=fun w' hw=>by (obtain⟨g0,J,Q,W⟩:=hw; go_simp; exact rfl))
 refine rq 2 I.out ⟨u,z,F,G⟩ rfl ?_ (hv:=fun w' hw=>by (obtain⟨g0,J,Q,W⟩:=hw; go_simp; exact rfl))
 refine rq 3 I.out ⟨u,z,F,G⟩ rfl ?_ (hv:=fun w' hw=>by (obtain⟨g0,J,Q,W⟩:=hw; go_simp; exact rfl))
 refine rq 5 I.out ⟨u,z,F,G⟩ rfl ?_ (hv:=fun w' hw=>by (obtain⟨g0,J,Q,W⟩:=hw; go_simp; exact rfl))
 refine rq 6 I.out ⟨u,z,F,G⟩ rfl ?_ (hv:=fun w' hw=>by (obtain⟨g0,J,Q,W⟩:=hw; go_simp; exact rfl))
 refine rq 7 I.out ⟨u,z,F,G⟩ rfl ?_ (hv:=fun w' hw=>by (obtain⟨g0,J,Q,W⟩:=hw; go_simp; exact rfl))
 refine rq 8 I.out ⟨u,z,F,G⟩ rfl ?_ (hv:=fun w' hw=>by (obtain⟨g0,J,Q,W⟩:=hw; go_simp; exact rfl))
 refine rq 10 I.out ⟨u,z,F,G⟩ rfl ?_ (hv:=fun w' hw=>by (obtain⟨g0,J,Q,W⟩:=hw; go_simp; exact rfl))
 refine rq 11 I.out ⟨u,z,F,G⟩ rfl ?_ (hv:=fun w' hw=>by (obtain⟨g0,J,Q,W⟩:=hw; go_simp; exact rfl))
 refine rq 12 I.out ⟨u,z,F,G⟩ rfl ?_ (hv:=fun w' hw=>by (obtain⟨g0,J,Q,W⟩:=hw; go_simp; exact rfl))
 refine rq 13 I.out ⟨u,z,F,G⟩ rfl ?_ (hv:=fun w' hw=>by (obtain⟨g0,J,Q,W⟩:=hw; go_simp; exact rfl))
 refine rq 14 I.out ⟨u,z,F,G⟩ rfl ?_ (hv:=fun w' hw=>by (obtain⟨g0,J,Q,W⟩:=hw; go_simp; exact rfl))
 refine rq 15 I.out ⟨u,z,F,G⟩ rfl ?_ (hv:=fun w' hw=>by (obtain⟨g0,J,Q,W⟩:=hw; go_simp; exact rfl))
 refine rq 16 I.out ⟨u,z,F,G⟩ rfl ?_ (hv:=fun w' hw=>by (obtain⟨g0,J,Q,W⟩:=hw; go_simp; exact rfl))
 refine rq 17 I.out ⟨u,z,F,G⟩ rfl ?_ (hv:=fun w' hw=>by (obtain⟨g0,J,Q,W⟩:=hw; go_simp; exact rfl))
 have keep:∀ w',Below w.heap.size w w'->w'.cell? ⟨p,0,none⟩=some (.slice A0 k0 c0)/\w'.cell? ⟨p,1,none⟩=some (.slice A1 k1 c1)/\w'.cell? ⟨p,2,none⟩=some (.int .u64 n)/\w'.cell? ⟨p,3,none⟩=some (.map (some m)):=fun w' Y=>⟨(Y.cell (p:=⟨p,0,none⟩) hl).trans u,(Y.cell (p:=⟨p,1,none⟩) hl).trans z,(Y.cell (p:=⟨p,2,none⟩) hl).trans F,(Y.cell (p:=⟨p,3,none⟩) hl).trans G⟩
 have a3:=Lh keep
 clear keep
 refine rO 4 rfl (by kernel_rfl) rfl ?_
 unfold Oper.wp
 go_simp
 refine (sclone_any A0 k0 c0 O m _ (ao.out.rd.below (Below.refl _ _).drew) (by simp; omega) (by omega)).mono ?_
 rintro e w1 ⟨B0,q0,rfl,ah,ac⟩
 have ad:Below w.heap.size w w1:=(Below.refl _ _).drew.trans ac
 have al:=Lh ah
 have a0:=Lh ad
 clear ah ac ad
 refine⟨a3.out _ a0.out,?_⟩
 refine rO 9 rfl (by kernel_rfl) rfl ?_
 unfold Oper.wp
 go_simp
 refine (sclone_any A1 k1 c1 P m _ (aq.out.rd.keep fun q hq=>a0.out.cell (by omega)) (by have:=a0.out.size; omega) (by omega)).mono ?_
 rintro e w2 ⟨B1,q1,rfl,ai,a6⟩
 have ae:Below w.heap.size w w2:=a0.out.trans (a6.mono a0.out.size)
 have an:=Lh (own_mono ai a0.out.size)
 have a2:=Lh a6
 have a1:=Lh ae
 clear ai a6 ae
 refine⟨a3.out _ a1.out,?_⟩
 refine rO 18 rfl (by kernel_rfl) rfl ?_
 unfold Oper.wp
 go_simp
 refine (setclone_any _ m C (by obtain⟨es,a5,Y,hr⟩:=HH.out.own; exact⟨es,a5,(a1.out.block m (by omega)).trans Y,hr⟩)).mono ?_
 rintro e w3 ⟨rfl,ag,a7,a8⟩
 have af:Below w.heap.size w w3:=a1.out.trans (a7.mono a1.out.size)
 have ak:=Lh ag
 have ar:=Lh a8
 clear a8
 have aj:=Lh a7
 have a9:=Lh af
 clear ag a7 af
 refine⟨a3.out _ a9.out,?_⟩
 refine rO 19 rfl (by kernel_rfl) rfl ?_
 unfold Oper.wp
 go_simp
 refine rO 20 rfl (by kernel_rfl) rfl ?_
 unfold Oper.wp
 go_simp
 refine rO 21 rfl (by kernel_rfl) rfl ?_
 unfold Oper.wp
 go_simp
 refine rgD (by kernel_rfl) ?_
 go_wp2_with fail
 go_ret
 have z2:=a1.out.size
 have a8:=ar.out
 have a4:Below w3.heap.size w3 (w3.alloc (.cells #[.slice B0 k0 q0,.slice B1 k1 q1,.int .u64 n,.map (some w2.heap.size)] 151)):=(Below.refl _ _).alloc (Nat.le_refl _) _
 have aa:Below w2.heap.size w2 (w3.alloc (.cells #[.slice B0 k0 q0,.slice B1 k1 q1,.int .u64 n,.map (some w2.heap.size)] 151)):=aj.out.trans (a4.mono (by omega))
 refine⟨w2.heap.size,w3.heap.size,rfl,⟨⟨B0,k0,q0,by go_simp,own_scr al.out (a2.out.trans (aa.mono a2.out.size)) a2.out.size⟩,⟨B1,k1,q1,by go_simp,own_scr an.out aa (Nat.le_refl _)⟩,by go_simp,by go_simp,?_,fun o=>by simp,z2,by omega,HH.out.nd,HH.out.mem⟩,a9.out.trans (a4.mono (by omega))⟩
 obtain⟨es,a5,Y,hr⟩:=ak.out
 exact⟨es,a5,(a4.block w2.heap.size (by omega)).trans Y,hr⟩
end Go.Proofs.YtoiklelghfckgaaGreatDoor.Fc
end
section
set_option maxRecDepth 100000
set_option maxHeartbeats 8000000
set_option linter.unusedVariables false
namespace Go.Proofs.YtoiklelghfckgaaGreatDoor.Ba
open Go Go.ChangeShapes Go.WideShapes Go.ChangeAt Go.RowKit Go.Maps Rw Hi Mt
abbrev eP:Enc (Option Nat) where
 val x:=.pointer (x.map fun b=>⟨b,0,none⟩)
 dat x:=match x with
  | none=>.lit (.bool false)
  | some b=>.lit (.int .i64 b)
 R v:=match v with
  | .pointer none=>some (.lit (.bool false),[])
  | .pointer (some ⟨b,0,none⟩)=>some (.lit (.int .i64 b),[])
  | _=>none
 mk_ x:=by cases x <;> rfl
 inv v y h:=by
  split at h
  .injection h with h; exact⟨none,rfl,h.symm⟩
  .rename_i b; injection h with h; exact⟨some b,rfl,h.symm⟩
  .cases h
 inj x y h:=by
  cases x <;> cases y
  .rfl
  .injection h with h; cases h
  .injection h with h; cases h
  .injection h with h; injection h with _ h; rw[Int.ofNat_inj.1 h]
abbrev U64 (k:Int):Prop:=0<=k/\k<=18446744073709551615
abbrev ptr (p:Nat):Value:=.pointer (some ⟨p,0,none⟩)
abbrev MP (w:World) (a:Nat) (L:List (Int × Option Nat)):Prop:=Mo Tryz.prog 25 eP w a L
theorem zeroP (w:World):(zeroValue 114).run Tryz.prog w=.ok (eP.val none) w:=by kernel_rfl
structure Fz (C:Nat->Prop) (w w':World):Prop where
 os:w'.os=w.os
 tape:w'.tape=w.tape
 output:w'.output=w.output
 size:w.heap.size<=w'.heap.size
 block:∀ k,k < w.heap.size -> ¬ C k->w'.heap[k]? = w.heap[k]?
section
variable {C D:Nat->Prop} {w w' w'':World}
theorem Fz.refl (C:Nat->Prop) (w:World):Fz C w w:=⟨rfl,rfl,rfl,Nat.le_refl _,fun _ _ _=>rfl⟩
theorem Fz.trans (h:Fz C w w') (z:Fz C w' w''):Fz C w w'':=
 ⟨z.os.trans h.os,z.tape.trans h.tape,z.output.trans h.output,Nat.le_trans h.size z.size,fun k hk hc=>(z.block k (Nat.lt_of_lt_of_le hk h.size) hc).trans (h.block k hk hc)⟩
theorem Fz.mono (h:Fz C w w') (z:∀ k,k < w.heap.size->C k->D k):Fz D w w':=⟨h.os,h.tape,h.output,h.size,fun k hk hc=>h.block k hk (fun e=>hc (z k hk e))⟩
theorem Fz.of_below (h:Below w.heap.size w w'):Fz C w w':=⟨h.os,h.tape,h.output,h.size,fun k hk _=>h.block k hk⟩
theorem Fz.of_grown {row:Option Nat} (h:w.grownBy w' row) (z:∀ g,row=some g->g < w.heap.size->C g):Fz C w w':=
 ⟨h.os,h.tape,h.output,h.size,fun k hk hc=>h.block k hk (fun e=>hc (z k e.symm hk))⟩
theorem Fz.of_set {a:Addr} (v:Value) (h:C a.block):Fz C w (w.setCell a v):=Fz.of_grown (Hi.gsC w a v) (fun g e _=>by injection e with e; exact e ▸ h)
theorem Fz.below (h:Fz C w w') {B:Nat} (z:B<=w.heap.size) (hc:∀ k,C k->B<=k):Below B w w':=
 ⟨h.os,h.tape,h.output,h.size,fun k hk=>h.block k (by omega) (fun e=>by have:=hc k e; omega)⟩
end
structure En where
 e:Nat
 c:Nat
 word:Int
 born:Int
 since:Int
 proved:Int
def up {β:Type} (L:List (Int × β)) (id:Int) (f:β->β):List (Int × β):=L.map fun q=>if q.1=id then (q.1,f q.2) else q
def ins {β:Type} (L:List (Int × β)) (id:Int) (x:β):List (Int × β):=L.filter (fun q=>decide (q.1 < id)) ++ (id,x) :: L.filter (fun q=>decide (id < q.1))
def Ris {β:Type} (L:List (Int × β)):Prop:=L.Pairwise (fun a b=>a.1 < b.1)
section
variable {β γ:Type} {L:List (Int × β)} {id:Int}
theorem up_keys (f:β->β):(up L id f).map Prod.fst=L.map Prod.fst:=by
 unfold up; rw[List.map_map]; apply List.map_congr_left; intro q _; simp only[Function.comp]; split <;> rfl
theorem Ris.nd (h:Ris L):Nd L:=by
 unfold Nd; unfold Ris at h
 rw[List.nodup_iff_pairwise_ne,List.pairwise_map]
 exact h.imp (fun z=>by omega)
theorem ris_keys:Ris L↔(L.map Prod.fst).Pairwise (· < ·):=by unfold Ris; rw[List.pairwise_map]
theorem Ris.up (h:Ris L) (f:β->β):Ris (up L id f):=by rw[ris_keys,up_keys]; exact ris_keys.1 h
theorem mem_up {f:β->β} {q:Int × β} (h:q∈up L id f):∃ r∈L,r.1=q.1/\(q=r/\r.1≠id\/q=(id,f r.2)/\r.1=id):=by
 unfold Ba.up at h
 obtain⟨r,z,e⟩:=List.mem_map.1 h
 by_cases hi:r.1=id
 .rw[if_pos hi] at e; subst e; exact⟨r,z,rfl,.inr ⟨by rw[hi],hi⟩⟩
 .rw[if_neg hi] at e; subst e; exact⟨r,z,rfl,.inl ⟨rfl,hi⟩⟩
theorem up_none (h:id ∉ L.map Prod.fst) (f:β->β):up L id f=L:=by
 unfold up
 conv=>rhs; rw[<- List.map_id L]
 apply List.map_congr_left
 intro q hq
 rw[if_neg (fun e=>h (List.mem_map.2 ⟨q,hq,e⟩))]; rfl
theorem up_same {f:β->β} (h:∀ x,fnd L id=some x->f x=x) (hn:Nd L):up L id f=L:=by
 unfold up
 conv=>rhs; rw[<- List.map_id L]
 apply List.map_congr_left
 intro q hq
 by_cases hi:q.1=id
 .rw[if_pos hi]
  have:=fnd_mem hn (k:=q.1) (x:=q.2) hq
  rw[hi] at this
  rw[h _ this]; rfl
 .rw[if_neg hi]; rfl
theorem Ris.split (h:Ris L) (hn:id ∉ L.map Prod.fst):L.filter (fun q=>decide (q.1 < id)) ++ L.filter (fun q=>decide (id < q.1))=L:=by
 unfold Ris at h
 induction L with
 | nil=>rfl
 | cons q r ih=>
  rw[List.pairwise_cons] at h
  have G:id ∉ r.map Prod.fst:=fun e=>hn (List.mem_cons_of_mem _ e)
  have I:q.1≠id:=fun e=>hn (e ▸ List.mem_cons_self)
  by_cases hq:q.1 < id
  .rw[List.filter_cons_of_pos (by simpa using hq),List.filter_cons_of_neg (by simp; omega),List.cons_append,ih h.2 G]
  .rw[List.filter_cons_of_neg (by simpa using hq),List.filter_cons_of_pos (by simp; omega)]
   have z:r.filter (fun q=>decide (q.1 < id))=[]:=by
    rw[List.filter_eq_nil_iff]; intro a ha; have:=h.1 a ha; simp; omega
   have F:r.filter (fun q=>decide (id < q.1))=r:=by
    rw[List.filter_eq_self]; intro a ha; have:=h.1 a ha; simp; omega
   rw[z,F]; rfl
theorem Ris.ins (h:Ris L) (x:β):Ris (ins L id x):=by
 unfold Ris Ba.ins at *
 rw[List.pairwise_append,List.pairwise_cons]
 refine⟨h.sublist List.filter_sublist,⟨fun a ha=>by have:=(List.mem_filter.1 ha).2; simpa using this,h.sublist List.filter_sublist⟩,fun a ha b z=>?_⟩
 have F:=(List.mem_filter.1 ha).2
 simp at F
 rcases List.mem_cons.1 z with rfl | z
 .exact F
 .have G:=(List.mem_filter.1 z).2
  simp at G
  omega
theorem ins_perm (h:Ris L) (hn:id ∉ L.map Prod.fst) (x:β):((id,x) :: L).Perm (ins L id x):=by
 unfold ins
 refine List.Perm.trans ?_ List.perm_middle.symm
 exact List.Perm.cons _ (by rw[h.split hn])
theorem ins_len (h:Ris L) (hn:id ∉ L.map Prod.fst) (x:β):(ins L id x).length=L.length+1:=by
 have:=(ins_perm h hn x).length_eq; simpa using this.symm
theorem mem_ins (h:Ris L) (hn:id ∉ L.map Prod.fst) {x:β} {q:Int × β} : q∈ins L id x↔q=(id,x)\/q∈L:=by
 rw[<- (ins_perm h hn x).mem_iff,List.mem_cons]
theorem ins_map {g:β->γ} {x:β} : (ins L id x).map (fun q=>(q.1,g q.2))=ins (L.map fun q=>(q.1,g q.2)) id (g x):=by
 unfold ins
 rw[List.map_append,List.map_cons,List.filter_map,List.filter_map]
 rfl
theorem fnd_map {g:β->γ} (k:Int):fnd (L.map fun q=>(q.1,g q.2)) k=(fnd L k).map g:=by
 unfold fnd
 rw[List.find?_map,Option.map_map,Option.map_map]
 rfl
end
abbrev bl (L:List (Int × En)):List (Int × Option Nat):=L.map fun q=>(q.1,some q.2.e)
theorem bl_keys (L:List (Int × En)):(bl L).map Prod.fst=L.map Prod.fst:=by simp[bl,Function.comp_def]
theorem bl_up (L:List (Int × En)) (id:Int) (f:En->En) (h:∀ x,(f x).e=x.e):bl (up L id f)=bl L:=by
 unfold bl up
 rw[List.map_map]
 apply List.map_congr_left
 intro q _
 simp only[Function.comp]
 split
 .rw[h]
 .rfl
structure Ok (C:Nat->Prop) (w:World) (x:En):Prop where
 k0:w.cell? ⟨x.e,0,none⟩=some (ptr x.c)
 k1:w.cell? ⟨x.e,1,none⟩=some (.int .u64 x.born)
 k2:w.cell? ⟨x.e,2,none⟩=some (.int .u64 x.since)
 k3:w.cell? ⟨x.e,3,none⟩=some (.int .u64 x.proved)
 kc:w.cell? ⟨x.c,0,none⟩=some (.int .u64 x.word)
 f2:w.frozen? ⟨x.e,2,none⟩=false
 f3:w.frozen? ⟨x.e,3,none⟩=false
 fc:w.frozen? ⟨x.c,0,none⟩=false
 ie:C x.e
 ic:C x.c
 uw:U64 x.word
 ub:U64 x.born
 us:U64 x.since
 up_:U64 x.proved
structure Bt (C R:Nat->Prop) (w:World) (p a:Nat) (L:List (Int × En)) (S:List Int):Prop where
 c0:w.cell? ⟨p,0,none⟩=some (.map (some a))
 f1:w.frozen? ⟨p,1,none⟩=false
 row:∃ A n c,w.cell? ⟨p,1,none⟩=some (.slice A n c)/\Rd (Value.int .u64) w w.heap.size A n c S/\(0 < n -> ∀ b o,A=some ⟨b,o,none⟩->R b)
 nd:S.Nodup
 us:Sn.U64s S
 mo:MP w a (bl L)
 en:∀ q∈L,Ok C w q.2
 ap:∀ q∈L,∀ r∈L,(q.2.e=r.2.e\/q.2.c=r.2.c)->q.1=r.1
 ri:Ris L
 ui:∀ q∈L,U64 q.1
 ip:C p
 ia:C a
 cr:∀ g,C g -> ¬ R g
section
variable {C D R T:Nat->Prop} {w w':World} {p a:Nat} {L:List (Int × En)} {S:List Int}
theorem Ok.lt {x:En} (h:Ok C w x):x.e < w.heap.size/\x.c < w.heap.size:=⟨Lw.ltH h.k0,Lw.ltH h.kc⟩
theorem Ok.blk {x:En} (h:Ok C w x) (z:w'.heap[x.e]? = w.heap[x.e]?) (hc:w'.heap[x.c]? = w.heap[x.c]?):Ok C w' x:=
 ⟨(World.cell?_of_block z).trans h.k0,(World.cell?_of_block z).trans h.k1,(World.cell?_of_block z).trans h.k2,(World.cell?_of_block z).trans h.k3,(World.cell?_of_block hc).trans h.kc,(World.frozen?_of_block z).trans h.f2,(World.frozen?_of_block z).trans h.f3,(World.frozen?_of_block hc).trans h.fc,h.ie,h.ic,h.uw,h.ub,h.us,h.up_⟩
theorem Bt.lt (h:Bt C R w p a L S):p < w.heap.size/\a < w.heap.size:=⟨Lw.ltH h.c0,h.mo.lt⟩
theorem rd_blk {A:Option Addr} {n c:Nat} {xs:List Int} {B B':Nat} (h:Rd (Value.int .u64) w B A n c xs) (F:B<=B') (hk:0 < n -> ∀ b o,A=some ⟨b,o,none⟩->w'.heap[b]? = w.heap[b]?):Rd (Value.int .u64) w' B' A n c xs:=
 ⟨h.len,h.cap,h.top,fun hn=>by
  obtain⟨b,o,e,z,hc⟩:=h.at_ hn
  exact⟨b,o,e,by omega,fun j x hx=>(World.cell?_of_block (hk hn b o e)).trans (hc j x hx)⟩⟩
theorem Bt.same (h:Bt C R w p a L S) (Y:w.heap.size<=w'.heap.size) (hk:∀ g,g < w.heap.size->C g\/R g->w'.heap[g]? = w.heap[g]?):Bt C R w' p a L S:=by
 have G:=hk p h.lt.1 (.inl h.ip)
 obtain⟨A,n,c,W,I,J⟩:=h.row
 refine⟨(World.cell?_of_block G).trans h.c0,(World.frozen?_of_block G).trans h.f1,⟨A,n,c,(World.cell?_of_block G).trans W,rd_blk I Y fun hn b o e=>?_,J⟩,h.nd,h.us,h.mo.block (hk a h.lt.2 (.inl h.ia)),fun q hq=>?_,h.ap,h.ri,h.ui,h.ip,h.ia,h.cr⟩
 .obtain⟨b',o',F,hb,_⟩:=I.at_ hn
  rw[e] at F; injection F with F; injection F with e1 _
  exact hk b (by omega) (.inr (J hn b o e))
 .have z:=h.en q hq
  exact z.blk (hk _ z.lt.1 (.inl z.ie)) (hk _ z.lt.2 (.inl z.ic))
theorem Bt.later (h:Bt C R w p a L S) (z:Below w.heap.size w w'):Bt C R w' p a L S:=h.same z.size (fun g F _=>z.block g F)
theorem Bt.aside (h:Bt C R w p a L S) (z:Fz D w w') (F:∀ g,C g\/R g -> ¬ D g):Bt C R w' p a L S:=h.same z.size (fun g G hc=>z.block g G (F g hc))
theorem Bt.mono (h:Bt C R w p a L S) (G:∀ g,g < w.heap.size->C g->D g) (ht:∀ g,g < w.heap.size->R g->T g) (Y:∀ g,D g -> ¬ T g):Bt D T w p a L S:=by
 obtain⟨A,n,c,J,I,W⟩:=h.row
 refine⟨h.c0,h.f1,⟨A,n,c,J,I,fun hn b o e=>?_⟩,h.nd,h.us,h.mo,fun q hq=>?_,h.ap,h.ri,h.ui,G _ h.lt.1 h.ip,G _ h.lt.2 h.ia,Y⟩
 .obtain⟨b',o',F,hb,_⟩:=I.at_ hn
  rw[e] at F; injection F with F; injection F with e1 _
  exact ht b (by omega) (W hn b o e)
 .have z:=h.en q hq
  exact { z with ie:=G _ z.lt.1 z.ie,ic:=G _ z.lt.2 z.ic }
theorem Bt.get (h:Bt C R w p a L S) {id:Int} {x:En} (hx:fnd L id=some x):Ok C w x/\(id,x)∈L:=⟨h.en _ (fnd_some hx),fnd_some hx⟩
theorem Bt.find (h:Bt C R w p a L S) (id:Int):fnd (bl L) id=(fnd L id).map fun x=>some x.e:=fnd_map (L:=L) (g:=fun x:En=>some x.e) id
theorem Bt.turn (h:Bt C R w p a L S) {id:Int} {x:En} (hx:fnd L id=some x) (wd I pr:Int) (hw:U64 wd) (hs:U64 I) (hp:U64 pr) (ae:w.heap.size<=w'.heap.size)
  (k2:w'.cell? ⟨x.e,2,none⟩=some (.int .u64 I)) (k3:w'.cell? ⟨x.e,3,none⟩=some (.int .u64 pr)) (kc:w'.cell? ⟨x.c,0,none⟩=some (.int .u64 wd))
  (he:∀ o,o≠2->o≠3->w'.cell? ⟨x.e,o,none⟩=w.cell? ⟨x.e,o,none⟩) (a3:∀ o,w'.frozen? ⟨x.e,o,none⟩=w.frozen? ⟨x.e,o,none⟩) (a9:w'.frozen? ⟨x.c,0,none⟩=w.frozen? ⟨x.c,0,none⟩)
  (hk:∀ g,g < w.heap.size->g≠x.e->g≠x.c->w'.heap[g]? = w.heap[g]?):Bt C R w' p a (up L id fun y=>{ y with word:=wd,since:=I,proved:=pr }) S:=by
 obtain⟨z,hm⟩:=h.get hx
 have ac:p≠x.e:=fun e=>by have F:=h.c0; rw[e,z.k0] at F; cases F
 have aa:p≠x.c:=fun e=>by have F:=h.c0; rw[e,z.kc] at F; cases F
 have a6:a≠x.e:=fun e=>h.mo.no_cell 0 _ (e ▸ z.k0)
 have a5:a≠x.c:=fun e=>h.mo.no_cell 0 _ (e ▸ z.kc)
 have a8:∀ q∈L,q.2.e≠x.c:=fun q hq e=>by have F:=(h.en q hq).k0; rw[e,z.kc] at F; cases F
 have a7:∀ q∈L,q.2.c≠x.e:=fun q hq e=>by have F:=(h.en q hq).kc; rw[e,z.k0] at F; cases F
 have a2:=hk p h.lt.1 ac aa
 obtain⟨A,n,c,F,h2,h3⟩:=h.row
 have a0:∀ q∈up L id (fun y:En=>{ y with word:=wd,since:=I,proved:=pr }),∃ r∈L,r.1=q.1/\r.2.e=q.2.e/\r.2.c=q.2.c/\(q=r/\r.1≠id\/q.2 = { x with word:=wd,since:=I,proved:=pr }):=fun q hq=>by
  obtain⟨r,G,Y,e2⟩:=mem_up hq
  refine⟨r,G,Y,?_⟩
  rcases e2 with ⟨rfl,a1⟩ | ⟨rfl,hi⟩
  .exact⟨rfl,rfl,.inl ⟨rfl,a1⟩⟩
  .have:r.2=x:=h.ri.nd.uniq (k:=id) (by rw[<- hi]; exact G) hm
   exact⟨rfl,rfl,.inr (by rw[this])⟩
 refine⟨(World.cell?_of_block a2).trans h.c0,(World.frozen?_of_block a2).trans h.f1,⟨A,n,c,(World.cell?_of_block a2).trans F,rd_blk h2 ae fun hn b o e=>?_,h3⟩,h.nd,h.us,?_,fun q hq=>?_,fun q hq r G e=>?_,h.ri.up _,fun q hq=>?_,h.ip,h.ia,h.cr⟩
 .obtain⟨b',o',W,hb,_⟩:=h2.at_ hn
  rw[e] at W; injection W with W; injection W with Y _
  have a4:=h3 hn b o e
  exact hk b (by omega) (fun e=>h.cr _ z.ie (e ▸ a4)) (fun e=>h.cr _ z.ic (e ▸ a4))
 .rw[bl_up L id (fun y:En=>{ y with word:=wd,since:=I,proved:=pr }) (fun _=>rfl)]
  exact h.mo.block (hk a h.lt.2 a6 a5)
 .obtain⟨r,G,_,_,_,e3⟩:=a0 q hq
  rcases e3 with ⟨rfl,a1⟩ | e3
  .have J:=h.en q G
   refine J.blk (hk _ J.lt.1 (fun e=>a1 ?_) (a8 q G)) (hk _ J.lt.2 (a7 q G) (fun e=>a1 ?_))
   .exact h.ap q G _ hm (.inl e)
   .exact h.ap q G _ hm (.inr e)
  .rw[e3]
   exact⟨(he 0 (by decide) (by decide)).trans z.k0,(he 1 (by decide) (by decide)).trans z.k1,k2,k3,kc,(a3 2).trans z.f2,(a3 3).trans z.f3,a9.trans z.fc,z.ie,z.ic,hw,z.ub,hs,hp⟩
 .obtain⟨q',J,e0,Y,e2,_⟩:=a0 q hq
  obtain⟨r',ad,f0,f1,f2,_⟩:=a0 r G
  rw[<- e0,<- f0]
  exact h.ap q' J r' ad (by rw[Y,e2,f1,f2]; exact e)
 .obtain⟨r,G,e0,_⟩:=a0 q hq
  rw[<- e0]
  exact h.ui r G
end
structure Ex where
 word:Int
 born:Int
 since:Int
 proved:Int
deriving DecidableEq
abbrev En.x (q:En):Ex:=⟨q.word,q.born,q.since,q.proved⟩
abbrev ab (L:List (Int × En)):List (Int × Ex):=L.map fun q=>(q.1,q.2.x)
def Bx (C R:Nat->Prop) (w:World) (p a:Nat) (D:List (Int × Ex)) (S:List Int):Prop:=∃ L,Bt C R w p a L S/\ab L=D
def exS (old st now:Int) (x:Ex):Ex:={ x with word:=Wd.wSwap x.word old st,since:=if Wd.wSwapOk x.word old st=true/\st=0 then now else x.since }
section
variable {C R E T:Nat->Prop} {w w':World} {p a:Nat} {D:List (Int × Ex)} {S:List Int}
theorem Bx.lt (h:Bx C R w p a D S):p < w.heap.size/\a < w.heap.size:=by obtain⟨L,h,_⟩:=h; exact h.lt
theorem Bx.ri (h:Bx C R w p a D S):Ris D:=by
 obtain⟨L,h,rfl⟩:=h
 have z:=ris_keys.1 h.ri
 rw[ris_keys]
 rw[List.map_map]
 exact z
theorem Bx.ui (h:Bx C R w p a D S):∀ q∈D,U64 q.1/\U64 q.2.word/\U64 q.2.born/\U64 q.2.since/\U64 q.2.proved:=by
 obtain⟨L,h,rfl⟩:=h
 intro q hq
 obtain⟨r,F,rfl⟩:=List.mem_map.1 hq
 have z:=h.en r F
 exact⟨h.ui r F,z.uw,z.ub,z.us,z.up_⟩
theorem Bx.later (h:Bx C R w p a D S) (z:Below w.heap.size w w'):Bx C R w' p a D S:=by obtain⟨L,h,e⟩:=h; exact⟨L,h.later z,e⟩
theorem Bx.aside (h:Bx C R w p a D S) (F:Fz E w w') (z:∀ g,C g\/R g -> ¬ E g):Bx C R w' p a D S:=by obtain⟨L,h,e⟩:=h; exact⟨L,h.aside F z,e⟩
theorem Bx.mono (h:Bx C R w p a D S) (z:∀ g,g < w.heap.size->C g->E g) (G:∀ g,g < w.heap.size->R g->T g) (F:∀ g,E g -> ¬ T g):Bx E T w p a D S:=by obtain⟨L,h,e⟩:=h; exact⟨L,h.mono z G F,e⟩
theorem Bx.cr (h:Bx C R w p a D S):∀ g,C g -> ¬ R g:=by obtain⟨L,h,_⟩:=h; exact h.cr
def cut (w:World) (X:Nat->Prop) (g:Nat):Prop:=g < w.heap.size/\X g
def ext (w:World) (X:Nat->Prop) (g:Nat):Prop:=(g < w.heap.size/\X g)\/w.heap.size<=g
def fresh (w:World) (g:Nat):Prop:=w.heap.size<=g
theorem Bt.cutC {L:List (Int × En)} (h:Bt C R w p a L S):Bt (cut w C) (ext w R) w p a L S:=h.mono (fun g F hc=>⟨F,hc⟩) (fun g F hc=>.inl ⟨F,hc⟩) (fun g hc z=>by
 rcases z with z | z
 .exact h.cr g hc.2 z.2
 .exact absurd hc.1 (by omega))
theorem Bt.extC {L:List (Int × En)} (h:Bt C R w p a L S):Bt (ext w C) (cut w R) w p a L S:=h.mono (fun g z hc=>.inl ⟨z,hc⟩) (fun g z hc=>⟨z,hc⟩) (fun g hc F=>by
 rcases hc with hc | hc
 .exact h.cr g hc.2 F.2
 .exact absurd F.1 (by omega))
end
end Go.Proofs.YtoiklelghfckgaaGreatDoor.Ba
namespace Go.Proofs.YtoiklelghfckgaaGreatDoor.Rw
open Go Go.ChangeShapes Go.WideShapes Go.ChangeAt Go.RowKit Go.Deep Hi Ba
structure RowT (T:TypeId) (n:Nat):Prop where
 under:Tryz.prog.underlying T=some (Tryz.prog.underlying T).get!
 row:((Tryz.prog.underlying T).get!).isRow=true
 info:(Tryz.prog.info? T).map (·.size)=some n
structure Vb (w:World) (g n:Nat) (cs:List Value):Prop where
 at_:w.rangeAt g 0 cs
 th:w.there g 0 n
 len:cs.length=n
section
variable {w w':World} {g n:Nat} {cs:List Value} {T:TypeId}
theorem Vb.cell (h:Vb w g n cs) (j:Nat) (u:Value) (z:cs[j]? = some u):w.cell? ⟨g,j,none⟩=some u:=by
 have:=h.at_ j u z
 rwa [Nat.zero_add] at this
theorem tb_free (h:w.there g 0 n) (j:Nat) (z:j < n):w.frozen? ⟨g,j,none⟩=false:=by
 have:=(h j z).2
 rwa [Nat.zero_add] at this
theorem Vb.free (h:Vb w g n cs) (j:Nat) (z:j < n):w.frozen? ⟨g,j,none⟩=false:=tb_free h.th j z
theorem tb_blk (h:w.there g 0 n) (z:w'.heap[g]? = w.heap[g]?):w'.there g 0 n:=fun j F=>⟨by rw[World.cell?_of_block z]; exact (h j F).1,by rw[World.frozen?_of_block z]; exact (h j F).2⟩
theorem tb_lt (h:w.there g 0 (n+1)):g < w.heap.size:=by
 obtain⟨u,z⟩:=Option.isSome_iff_exists.1 (h 0 (by omega)).1
 exact Lw.ltH z
theorem Vb.blk (h:Vb w g n cs) (z:w'.heap[g]? = w.heap[g]?):Vb w' g n cs:=⟨fun j u F=>(World.cell?_of_block z).trans (h.at_ j u F),tb_blk h.th z,h.len⟩
theorem Vb.lt (h:Vb w g (n+1) cs):g < w.heap.size:=tb_lt h.th
theorem Vb.later (h:Vb w g (n+1) cs) (z:Below w.heap.size w w'):Vb w' g (n+1) cs:=h.blk (z.block _ h.lt)
theorem tb_later (h:w.there g 0 (n+1)) (z:Below w.heap.size w w'):w'.there g 0 (n+1):=tb_blk h (z.block _ (tb_lt h))
theorem Vb.set (h:Vb w g n cs) (j:Nat) (G:j < cs.length) (u:Value):Vb (w.setCell ⟨g,j,none⟩ u) g n (cs.set j u):=by
 refine⟨fun i x hx=>?_,fun i hi=>⟨?_,by simpa using (h.th i hi).2⟩,by rw[List.length_set]; exact h.len⟩
 .by_cases e:j=i
  .subst e
   rw[List.getElem?_set_self G] at hx
   injection hx with hx
   subst hx
   have F:=h.at_ j _ (List.getElem?_eq_getElem G)
   rw[Nat.zero_add] at F ⊢
   exact World.cell?_setCell_same _ _ _ F
  .rw[List.getElem?_set_ne e] at hx
   exact (World.cell?_setCell_other _ _ _ _ (fun z=>by injection z with _ z; omega)).trans (h.at_ i x hx)
 .by_cases e:j=i
  .subst e
   have F:=h.at_ j _ (List.getElem?_eq_getElem G)
   rw[Nat.zero_add] at F ⊢
   rw[World.cell?_setCell_same _ _ _ F]; rfl
  .rw[World.cell?_setCell_other _ _ _ _ (fun z=>by injection z with _ z; omega)]
   exact (h.th i hi).1
theorem fzb_setCells (g:Nat):∀ (vs:List Value) (o:Nat) (w:World),Fz (fun k=>k=g) w (w.setCells g o vs)
 | [],_,w=>Fz.refl _ w
 | v :: r,o,w=>by
  rw[World.setCells]
  exact (Fz.of_set (C:=fun k=>k=g) (a:=⟨g,o,none⟩) v rfl).trans (fzb_setCells g r (o+1) _)
theorem box_b (T:TypeId) (cs:List Value) (w:World) (F:cs.length=n):∃ W,w.alloc (.cells cs.toArray T)=W/\Vb W w.heap.size n cs/\Below w.heap.size w W/\W.heap.size=w.heap.size+1:=by
 have h:(w.alloc (.cells cs.toArray T)).heap[w.heap.size]? = some (.cells cs.toArray T):=heap_alloc_last _ _
 refine⟨_,rfl,⟨fun j u z=>?_,fun j z=>⟨?_,?_⟩,F⟩,(Below.refl _ _).alloc (Nat.le_refl _) _,by simp⟩
 .rw[cell_of_row _ _ _ _ _ _ h]; simpa using z
 .rw[cell_of_row _ _ _ _ _ _ h]; simp; omega
 .unfold World.frozen?; simp only[h]; rfl
theorem boxes_b (T:TypeId) (cs zs:List Value) (w:World) (hl:cs.length=n+1) (hz:zs.length=n+1):∃ W,(w.alloc (.cells cs.toArray T)).alloc (.cells zs.toArray T)=W /\
  Vb W w.heap.size (n+1) cs/\W.there (w.heap.size+1) 0 (n+1)/\Below w.heap.size w W/\W.heap.size=w.heap.size+2:=by
 obtain⟨F,I,Y,b1,s1⟩:=box_b T cs w hl
 rw[I]
 obtain⟨G,J,z,h,s2⟩:=box_b T zs F hz
 rw[s1] at z
 exact⟨G,J,Y.later h,z.th,b1.trans (h.mono b1.size),by omega⟩
end
section
variable {T:TypeId} {n:Nat} (hT:RowT T n) {fn:Func} {p u x:Tmp} (tmps:Array Value) (w:World) (g:Nat) (cs:List Value)
include hT
theorem res_b (h:fn.results=#[.cell p T]) (z:tmps.getD p undef=.pointer (some ⟨g,0,none⟩)) (hv:Vb w g n cs):(results fn tmps).run Tryz.prog w=.ok (.agg cs.toArray) w:=by
 have G:=run_loadVar_mid (P:=Tryz.prog) w g 0 T _ _ hv.at_ hT.under hT.row (by rw[hv.len]; exact hT.info)
 have F:tmps[p]?.getD undef=.pointer (some ⟨g,0,none⟩):=by simpa using z
 simp[results,h,F,asAddr,G]
end
section
variable {T:TypeId} {n:Nat} (hT:RowT T n) {ops:Array Oper} {rest:List Oper} {op:Oper} {a:Act} {w:World} {Q:Exit->Act->World->Prop}
include hT
theorem ldB (z:op.guard=none) (x:Operand) (F:op.op=.load T x) (g:Nat) (hx:a.eval x=.pointer (some ⟨g,0,none⟩)) (cs:List Value) (hv:Vb w g n cs)
  (h:wpList Tryz.prog ops Q rest (a.put op.dst (.agg cs.toArray)) w):wpList Tryz.prog ops Q (op :: rest) a w:=
 wpList_load_mid z T x F g 0 hx _ _ hv.at_ hT.under hT.row (by rw[hv.len]; exact hT.info) h
theorem stB (G:op.guard=none) (x y:Operand) (J:op.op=.store T x y) (g:Nat) (hx:a.eval x=.pointer (some ⟨g,0,none⟩)) (cs:List Value) (W:a.eval y=.agg cs.toArray) (z:w.there g 0 n) (I:cs.length=n) (F:cs.toArray.all (·.oneCell')=true)
  (h:∀ w',Vb w' g n cs->Fz (fun k=>k=g) w w'->wpList Tryz.prog ops Q rest (a.put op.dst undef) w'):wpList Tryz.prog ops Q (op :: rest) a w:=by
 subst I
 exact wpList_store_mid G T x y J g 0 cs.toArray hx W z hT.info F (h _ ⟨World.rangeAt_setCells_same w g 0 _ z,World.there_setCells z g 0 _,rfl⟩ (fzb_setCells _ _ _ _))
theorem exec_load_b (h:Oper) (ev:Operand->Value) (y:Operand) (z:h.op=.load T y) {g:Nat} (hx:ev y=.pointer (some ⟨g,0,none⟩)) {w:World} {cs:List Value} (hv:Vb w g n cs):(execOp ev h).run Tryz.prog w=.ok (.value (.agg cs.toArray)) w:=by
 unfold execOp
 simp only[z,hx,Instr.loadAt,Instr.sureAddr,Sem.run_bind,Sem.run_pure,Result.andThen_ok,run_loadVar_mid (P:=Tryz.prog) w g 0 T _ _ hv.at_ hT.under hT.row (by rw[hv.len]; exact hT.info)]
end
end Go.Proofs.YtoiklelghfckgaaGreatDoor.Rw
namespace Go.Proofs.YtoiklelghfckgaaGreatDoor.Ba
open Go Go.ChangeShapes Go.WideShapes Go.ChangeAt Go.RowKit Go.Maps Rw Hi Mt
section
variable (w:World) {ops:Array Oper} {rest:List Oper} {o:Oper} {a:Act} {Q:Exit->Act->World->Prop}
theorem lookP (F:o.guard=none) (m x:Operand) (I:o.op=Op.lookup 133 m x false) (b:Nat) (L:List (Int × Option Nat)) (G:a.eval m=.map (some b)) (h:MP w b L) (y:Int) (J:U64 y) (hx:a.eval x=.int .u64 y)
  (q:Option Nat) (hq:(fnd L y).getD none=q)
  (z:wpList Tryz.prog ops Q rest (a.put o.dst (.pointer (q.map fun b=>⟨b,0,none⟩))) w):wpList Tryz.prog ops Q (o :: rest) a w:=by
 refine look1 w F m x 133 I 25 114 Tryz.underlying25 Tryz.underlying133 none (zeroP w) b L G h y J hx ?_
 rw[hq]
 exact z
end
section
variable {C R:Nat->Prop} (w:World) (p a:Nat) (L:List (Int × En)) (S:List Int) (id:Int)
theorem of_miss (h:Bt C R w p a L S) (hid:U64 id) (hn:fnd L id=none) :
  Calls Tryz.prog 41 #[ptr p,.int .u64 id] w fun e w'=>e=.returned (.pointer none)/\w=w':=by
 have c0:=h.c0
 have z:(fnd (bl L) id).getD none=none:=by rw[h.find,hn]; rfl
 have I:=Lh h.mo
 have G:=Lh hid
 have F:=Lh z
 clear h hid hn z
 go_enter Tryz.func41,Tryz.ntmps41
 go_wp2_with (at_lookup; refine lookP _ rfl _ _ rfl a _ rfl I.out id G.out rfl none F.out ?_)
 go_ret
 exact⟨rfl,rfl⟩
theorem of_hit (h:Bt C R w p a L S) (hid:U64 id) {x:En} (hx:fnd L id=some x) :
  Calls Tryz.prog 41 #[ptr p,.int .u64 id] w fun e w'=>e=.returned (ptr x.e)/\w=w':=by
 have c0:=h.c0
 have z:(fnd (bl L) id).getD none=some x.e:=by rw[h.find,hx]; rfl
 have I:=Lh h.mo
 have G:=Lh hid
 have F:=Lh z
 clear h hid hx z
 go_enter Tryz.func41,Tryz.ntmps41
 go_wp2_with (at_lookup; refine lookP _ rfl _ _ rfl a _ rfl I.out id G.out rfl (some x.e) F.out ?_)
 go_ret
 exact⟨rfl,rfl⟩
theorem wrong_any (h:Bt C R w p a L S) (hid:U64 id) :
  Calls Tryz.prog 181 #[ptr p,.int .u64 id] w fun e w'=>e=.returned (.int .i64 (if (fnd L id).isSome then 0 else 9))/\w=w':=by
 cases hf:fnd L id with
 | none=>
  have H:=Lh (of_miss w p a L S id h hid hf)
  clear h hid hf
  go_enter Tryz.func181,Tryz.ntmps181
  go_wp2_with fail
  refine H.out.mono ?_
  rintro e z ⟨rfl,rfl⟩
  go_wp2_with fail
  go_ret
  exact⟨rfl,rfl⟩
 | some x=>
  have H:=Lh (of_hit w p a L S id h hid hf)
  clear h hid hf
  go_enter Tryz.func181,Tryz.ntmps181
  go_wp2_with fail
  refine H.out.mono ?_
  rintro e z ⟨rfl,rfl⟩
  go_wp2_with fail
  go_ret
  exact⟨rfl,rfl⟩
theorem loadT_any (h:Bt C R w p a L S) (hid:U64 id) :
  Calls Tryz.prog 13 #[ptr p,.int .u64 id] w fun e w'=>e=.returned (.tuple #[.int .u64 (((fnd L id).map En.word).getD 0),.bool (fnd L id).isSome])/\w=w':=by
 cases hf:fnd L id with
 | none=>
  have H:=Lh (of_miss w p a L S id h hid hf)
  clear h hid hf
  go_enter Tryz.func13,Tryz.ntmps13
  go_wp2_with fail
  refine H.out.mono ?_
  rintro e F ⟨rfl,rfl⟩
  go_wp2_with fail
  go_ret2
  exact⟨rfl,rfl⟩
 | some x=>
  have H:=Lh (of_hit w p a L S id h hid hf)
  have z:=(h.get hf).1
  have k0:=z.k0
  have kc:=z.kc
  clear h hid hf z
  go_enter Tryz.func13,Tryz.ntmps13
  go_wp2_with fail
  refine H.out.mono ?_
  rintro e F ⟨rfl,rfl⟩
  go_wp2_with fail
  refine (Wd.load_any _ _ _ kc).mono ?_
  rintro e G ⟨rfl,rfl⟩
  go_wp2_with fail
  go_ret2
  exact⟨rfl,rfl⟩
theorem list_any (h:Bt C R w p a L S):Calls Tryz.prog 21 #[ptr p] w fun e w'=>∃ A n c,e=.returned (.agg #[.slice A n c])/\Rd (Value.int .u64) w w.heap.size A n c S/\(0 < n -> ∀ b o,A=some ⟨b,o,none⟩->R b)/\Below w.heap.size w w':=by
 obtain⟨A,n,c,c1,z,F⟩:=h.row
 have G:=Lh z
 have I:=Lh F
 clear h z F
 have J:=Lw.ltH c1
 go_enter Tryz.func21,Tryz.ntmps21
 go_wp2_with fail
 refine bodyPost_ret (v:=.agg #[.slice A n c]) (by simp[results,Tryz.results21,go_sem]) rfl ⟨A,n,c,rfl,G.out,I.out,?_⟩
 repeat' (first | exact Below.refl _ _ | apply Below.setCell | apply Below.alloc)
 all_goals (first | (simp; done) | (simp; omega))
theorem new_any:Calls Tryz.prog 57 #[] w fun e w'=>e=.returned (ptr (w.heap.size+1))/\Bt (fresh w) (fun _=>False) w' (w.heap.size+1) w.heap.size [] [] /\ Below w.heap.size w w':=by
 have z:=@run_makeMap Tryz.prog
 go_enter Tryz.func57,Tryz.ntmps57
 go_wp2_with fail
 go_ret
 refine⟨rfl,⟨by go_simp,by go_simp,⟨none,0,0,by go_simp,Rd.nil_,fun h=>absurd h (by omega)⟩,List.nodup_nil,fun x hx=>(by cases hx),?_,fun q hq=>(by cases hq),fun q hq=>(by cases hq),List.Pairwise.nil,fun q hq=>(by cases hq),(show w.heap.size<=w.heap.size+1 by omega),Nat.le_refl _,fun _ _ h=>h⟩,((Below.refl _ _).alloc (Nat.le_refl _) _).alloc (by simp) _⟩
 exact (Mo.made w Tryz.prog 25 eP).alloc _
end
theorem and_keep {A B:Prop} (a:A) (h:A->B):A/\B:=⟨a,h a⟩
section
variable {C R:Nat->Prop} (w:World) (p a:Nat) (L:List (Int × En)) (S:List Int) (id:Int)
theorem Bt.enter {w:World} {p a:Nat} {L:List (Int × En)} {S:List Int} {id:Int} (h:Bt C R w p a L S) (hn:fnd L id=none) (hid:U64 id) {w1 F:World} (Y:Below w.heap.size w w1) (x:En) (a5:Ok (ext w C) F x) (he:w.heap.size<=x.e) (hc:w.heap.size<=x.c)
  (hm:MP F a ((id,some x.e) :: wo (bl L) id)) (hg:w1.grownBy F (some a)):Bt (ext w C) (cut w R) F p a (ins L id x) S:=by
 replace h:=h.extC
 have a0:id ∉ L.map Prod.fst:=fnd_no hn
 have a4:id ∉ (bl L).map Prod.fst:=by rw[bl_keys]; exact a0
 have hk:∀ g,g < w.heap.size->g≠a->F.heap[g]? = w.heap[g]?:=fun g a1 a3=>(hg.block g (Nat.lt_of_lt_of_le a1 Y.size) (fun e=>a3 (by injection e))).trans (Y.block g a1)
 have a6:p≠a:=fun e=>h.mo.no_cell 0 _ (e ▸ h.c0)
 have hp:=hk p h.lt.1 a6
 obtain⟨A,n,c,h1,W,h3⟩:=h.row
 have I:∀ {q},q∈ins L id x↔q=(id,x)\/q∈L:=mem_ins h.ri a0
 refine⟨(World.cell?_of_block hp).trans h.c0,(World.frozen?_of_block hp).trans h.f1,⟨A,n,c,(World.cell?_of_block hp).trans h1,rd_blk W (Nat.le_trans Y.size hg.size) fun hn b o e=>?_,h3⟩,h.nd,h.us,?_,fun q hq=>?_,fun q hq r J e=>?_,h.ri.ins x,fun q hq=>?_,h.ip,h.ia,h.cr⟩
 .obtain⟨b',o',G,a8,a2⟩:=W.at_ hn
  rw[e] at G; injection G with G; injection G with e1 e2 _
  have hl:0 < S.length:=by rw[W.len]; exact hn
  refine hk b (by omega) (fun e3=>?_)
  have:=a2 0 _ (List.getElem?_eq_getElem hl)
  rw[<- e1,e3] at this
  exact h.mo.no_cell _ _ this
 .refine hm.perm ?_
  rw[wo_none a4]
  have:=(ins_perm (id:=id) h.ri a0 x).map (fun q=>(q.1,some q.2.e))
  exact this
 .rcases I.1 hq with rfl | hq
  .exact a5
  .have z:=h.en q hq
   exact z.blk (hk _ z.lt.1 (fun e=>h.mo.no_cell 0 _ (e ▸ z.k0))) (hk _ z.lt.2 (fun e=>h.mo.no_cell 0 _ (e ▸ z.kc)))
 .rcases I.1 hq with rfl | hq <;> rcases I.1 J with rfl | J
  .rfl
  .have a7:=h.en r J
   have:=a7.lt
   simp only at e
   omega
  .have z:=h.en q hq
   have:=z.lt
   simp only at e
   omega
  .exact h.ap q hq r J e
 .rcases I.1 hq with rfl | hq
  .exact hid
  .exact h.ui q hq
def eE {β:Type} (D:List (Int × β)) (id st:Int):Int:=if id=0\/st < 0\/3 < st then 2 else if (fnd D id).isSome then 10 else 0
theorem enter_range (st now:Int) (h:id=0\/st < 0\/3 < st):Calls Tryz.prog 73 #[ptr p,.int .u64 id,.int .i64 st,.int .u64 now] w fun e w'=>e=.returned (.int .i64 2)/\w=w':=by
 by_cases h0:id=0
 .have q0:(id == 0)=true:=by simpa using h0
  clear h0 h
  go_enter Tryz.func73,Tryz.ntmps73
  go_wp2_with fail
  go_ret
  exact⟨rfl,rfl⟩
 .have q0:(id == 0)=false:=by simpa using h0
  by_cases h1:st < 0
  .have z:decide (st < 0)=true:=decide_eq_true h1
   clear h0 h1 h
   go_enter Tryz.func73,Tryz.ntmps73
   go_wp2_with fail
   go_ret
   exact⟨rfl,rfl⟩
  .have z:decide (st < 0)=false:=decide_eq_false h1
   have F:decide (3 < st)=true:=decide_eq_true (by omega)
   clear h0 h1 h
   go_enter Tryz.func73,Tryz.ntmps73
   go_wp2_with fail
   go_ret
   exact⟨rfl,rfl⟩
theorem enter_had (h:Bt C R w p a L S) (hid:U64 id) (st now:Int) (F:¬ (id=0\/st < 0\/3 < st)) {x:En} (z:fnd L id=some x):Calls Tryz.prog 73 #[ptr p,.int .u64 id,.int .i64 st,.int .u64 now] w fun e w'=>e=.returned (.int .i64 10)/\w=w':=by
 have q0:(id == 0)=false:=by simp; omega
 have G:decide (st < 0)=false:=decide_eq_false (by omega)
 have I:decide (3 < st)=false:=decide_eq_false (by omega)
 have H:=Lh (of_hit w p a L S id h hid z)
 clear h hid F z
 go_enter Tryz.func73,Tryz.ntmps73
 go_wp2_with fail
 refine H.out.mono ?_
 rintro e J ⟨rfl,rfl⟩
 go_wp2_with fail
 go_ret
 exact⟨rfl,rfl⟩
theorem enter_new (h:Bt C R w p a L S) (hid:U64 id) (st now:Int) (a3:U64 now) (hr:¬ (id=0\/st < 0\/3 < st)) (Y:fnd L id=none) (a8:L.length < 1000000) :
  Calls Tryz.prog 73 #[ptr p,.int .u64 id,.int .i64 st,.int .u64 now] w fun e w'=>e=.returned (.int .i64 0)/\(∃ x:En,x.x=⟨Wd.wOf st 0,now,now,now⟩/\Bt (ext w C) (cut w R) w' p a (ins L id x) S)/\Fz C w w':=by
 have q0:(id == 0)=false:=by simp; omega
 have q1:decide (st < 0)=false:=decide_eq_false (by omega)
 have q2:decide (3 < st)=false:=decide_eq_false (by omega)
 have H:=Lh (of_miss w p a L S id h hid Y)
 have K0:=Lh h.c0
 have HL:=Lh h.lt.1
 have HM:=Lh h.mo
 have J:=Lh h
 have HI:=Lh hid
 have HN:=Lh Y
 have W:=Lh a3
 have a6:Hid ((bl L).length < 4611686018427387904):=Lh (by simp[bl]; omega)
 clear h hid hr Y a3 a8
 go_enter Tryz.func73,Tryz.ntmps73
 go_wp2_with fail
 refine H.out.mono ?_
 rintro e w1 ⟨rfl,rfl⟩
 go_wp2_with fail
 have z:Hid (Below w.heap.size w w.drew):=Lh (Below.refl _ _).drew
 have HB:Hid (Below w.heap.size w w):=Lh (Below.refl _ _)
 refine rgS 13 (fun w'=>Below w.heap.size w w') (by kernel_rfl) (by kernel_rfl) ?_
 intro a1
 have F:=Lh a1
 clear a1
 refine rq 0 F.out z.out rfl ?_
 refine rq 1 F.out z.out rfl ?_
 refine rq 2 F.out z.out rfl ?_
 refine rq 3 F.out z.out rfl ?_ (hv:=fun w' hw=>by (have k:=(hw.cell (p:=⟨p,0,none⟩) HL.out).trans K0.out; go_simp; exact rfl))
 refine rq 4 F.out z.out rfl ?_
 refine rq 5 F.out z.out rfl ?_
 refine rq 8 F.out z.out rfl ?_
 refine rq 9 F.out z.out rfl ?_
 refine rq 10 F.out z.out rfl ?_
 refine rO 6 rfl (by kernel_rfl) rfl ?_
 unfold Oper.wp
 go_simp
 refine (Wd.of_any st 0 _ (by omega) (by omega)).mono ?_
 rintro e w2 ⟨rfl,rfl⟩
 refine⟨z.out,?_⟩
 refine rO 7 rfl (by kernel_rfl) rfl ?_
 unfold Oper.wp
 go_simp
 refine (Wd.new_any _ _).mono ?_
 rintro e w2 ⟨rfl,rfl⟩
 refine and_keep (by (repeat' (first | exact z.out | exact HB.out | exact Below.refl _ _ | apply Below.setCell | apply Below.drew | apply Below.alloc)); all_goals (first | exact Nat.le_refl _ | omega | (simp; done) | (simp; omega))) ?_
 intro G
 clear z
 have z:=Lh G
 clear G
 refine rq 11 F.out z.out rfl ?_
 refine rO 12 rfl (by kernel_rfl) rfl ?_
 unfold Oper.wp
 go_simp
 refine and_keep (by (repeat' (first | exact z.out | exact HB.out | exact Below.refl _ _ | apply Below.setCell | apply Below.drew | apply Below.alloc)); all_goals (first | exact Nat.le_refl _ | omega | (simp; done) | (simp; omega))) ?_
 intro G
 clear z
 have z:=Lh G
 clear G
 refine rO 13 rfl (by kernel_rfl) rfl ?_
 unfold Oper.wp
 go_simp
 obtain⟨w3,a4,a0,a2⟩:=run_put (E:=eP) ((w.alloc (.cells #[.int .u64 (Wd.wOf st 0)] 191)).alloc (.cells #[ptr w.heap.size,.int .u64 now,.int .u64 now,.int .u64 now] 118)).drew Tryz.underlying25 Tryz.underlying133 (HM.out.later z.out) a6.out HI.out (some (w.heap.size+1))
 have a5:(Instr.mapUpdate 133 (.map (some a)) (.int .u64 id) (.pointer (some ⟨w.heap.size+1,0,none⟩))).run Tryz.prog ((w.alloc (.cells #[.int .u64 (Wd.wOf st 0)] 191)).alloc (.cells #[.pointer (some ⟨w.heap.size,0,none⟩),.int .u64 now,.int .u64 now,.int .u64 now] 118)).drew=.ok () w3:=a4
 rw[a5]
 go_simp
 refine rgD (by kernel_rfl) ?_
 have aa:=Lh (z.out.size)
 have a7:=Lh a0
 have I:=Lh a2
 clear a4 a5 a0 a2
 go_wp2_with fail
 go_ret
 have ac:=J.out.lt.2
 have hw:=I.out
 have c1:∀ i v,((w.alloc (.cells #[.int .u64 (Wd.wOf st 0)] 191)).alloc (.cells #[ptr w.heap.size,.int .u64 now,.int .u64 now,.int .u64 now] 118)).drew.cell? ⟨w.heap.size+1,i,none⟩=some v->w3.cell? ⟨w.heap.size+1,i,none⟩=some v:=fun i v hv=>hw.cell hv (by intro e; injection e with e; have e:w.heap.size+1=a:=e; omega)
 have a9:Ok (ext w C) w3 ⟨w.heap.size+1,w.heap.size,Wd.wOf st 0,now,now,now⟩:=
  ⟨c1 0 _ (by go_simp),c1 1 _ (by go_simp),c1 2 _ (by go_simp),c1 3 _ (by go_simp),hw.cell (a:=⟨w.heap.size,0,none⟩) (by go_simp) (by intro e; injection e with e; have e:w.heap.size=a:=e; omega),
   (World.frozen?_of_block (hw.block _ (by simp) (by intro e; injection e with e; have e:w.heap.size+1=a:=e; omega))).trans (by go_simp),(World.frozen?_of_block (hw.block _ (by simp) (by intro e; injection e with e; have e:w.heap.size+1=a:=e; omega))).trans (by go_simp),(World.frozen?_of_block (hw.block _ (by simp; omega) (by intro e; injection e with e; have e:w.heap.size=a:=e; omega))).trans (by go_simp),
   .inr (by show w.heap.size<=w.heap.size+1; omega),.inr (Nat.le_refl _),⟨Wd.wOf_lo st 0,Wd.wOf_hi st 0⟩,W.out,W.out,W.out⟩
 exact⟨rfl,⟨_,rfl,J.out.enter HN.out HI.out z.out _ a9 (by show w.heap.size<=w.heap.size+1; omega) (Nat.le_refl _) a7.out I.out⟩,(Fz.of_below z.out).trans (Fz.of_grown I.out (fun g e _=>by injection e with e; subst e; exact J.out.ia))⟩
theorem swapT_miss (h:Bt C R w p a L S) (hid:U64 id) (z:fnd L id=none) (old st now:Int):Calls Tryz.prog 83 #[ptr p,.int .u64 id,.int .u64 old,.int .i64 st,.int .u64 now] w fun e w'=>e=.returned (.tuple #[.int .u64 0,.bool false])/\w=w':=by
 have H:=Lh (of_miss w p a L S id h hid z)
 clear h hid z
 go_enter Tryz.func83,Tryz.ntmps83
 go_wp2_with fail
 refine H.out.mono ?_
 rintro e F ⟨rfl,rfl⟩
 go_wp2_with fail
 go_ret2
 exact⟨rfl,rfl⟩
theorem swapT_hit (h:Bt C R w p a L S) (hid:U64 id) {x:En} (Y:fnd L id=some x) (old st now:Int) (ho:U64 old) (a9:U64 now):Calls Tryz.prog 83 #[ptr p,.int .u64 id,.int .u64 old,.int .i64 st,.int .u64 now] w fun e w'=>e=.returned (.tuple #[.int .u64 (Wd.wSwap x.word old st),.bool (Wd.wSwapOk x.word old st)]) /\
   Bt C R w' p a (up L id fun y=>{ y with word:=Wd.wSwap x.word old st,since:=if Wd.wSwapOk x.word old st=true/\st=0 then now else x.since,proved:=x.proved }) S/\Fz C w w':=by
 have H:=Lh (of_hit w p a L S id h hid Y)
 have ah:=(h.get Y).1
 obtain⟨g0,g1,g2,g3,J,f2,f3,fc,a8,a7,uw,ub,us,up_⟩:=ah
 have W:x.e≠x.c:=fun e=>by rw[e,J] at g0; cases g0
 have aj:=Lw.ltH g0
 have ai:=Lw.ltH J
 have G2:=Lh g2
 have G3:=Lh g3
 have F2:=Lh f2
 have HK:=Lh h
 have HF:=Lh Y
 have aa:=Lh a8
 have a2:=Lh a7
 have G:=Lh W
 have I:Hid (U64 (Wd.wSwap x.word old st)):=Lh ⟨Wd.wSwap_lo _ _ _ uw.1,Wd.wSwap_hi _ _ _ uw.2⟩
 have ad:=Lh a9
 have a5:=Lh us
 have a3:=Lh up_
 obtain⟨V,hV⟩:∃ V,Wd.wSwap x.word old st=V:=⟨_,rfl⟩
 have F:=Lh (Wd.swap_any ⟨x.c,0,none⟩ x.word old st w J fc ho.1 ho.2)
 rw[hV] at I F ⊢
 have a6:(w.setCell ⟨x.c,0,none⟩ (.int .u64 V)).cell? ⟨x.c,0,none⟩=some (.int .u64 V):=World.cell?_setCell_same _ _ _ J
 have a4:∀ o,(w.setCell ⟨x.c,0,none⟩ (.int .u64 V)).cell? ⟨x.e,o,none⟩=w.cell? ⟨x.e,o,none⟩:=fun o=>World.cell?_setCell_other w _ _ _ (fun e=>W (by injection e with e _; exact e.symm))
 have ae:=(a4 2).trans g2
 have ak:(w.setCell ⟨x.c,0,none⟩ (.int .u64 V)).frozen? ⟨x.e,2,none⟩=false:=by
  rw[<- f2]; exact World.frozen?_of_block (heap_setCell_other w ⟨x.c,0,none⟩ x.e _ (fun e=>W e))
 have a0:=Lh a6
 have z:=Lh a4
 have a1:=Lh ae
 have HV:=Lh hV
 clear h hid Y g1 g2 g3 f2 f3 a8 a7 W uw ub us up_ a9 hV a6 a4
 cases hk:Wd.wSwapOk x.word old st with
 | false=>
  rw[hk] at F
  have ac:=Lh hk
  clear hk
  rw[if_neg (fun e=>by cases e.1)]
  go_enter Tryz.func83,Tryz.ntmps83
  go_wp2_with fail
  refine H.out.mono ?_
  rintro e w1 ⟨rfl,rfl⟩
  go_wp2_with fail
  refine F.out.mono ?_
  rintro e w2 ⟨rfl,rfl⟩
  go_wp2_with fail
  go_ret2
  refine⟨rfl,HK.out.turn HF.out V x.since x.proved I.out a5.out a3.out (by simp) a1.out ((z.out 3).trans G3.out) a0.out (fun o _ _=>z.out o) (fun o=>World.frozen?_of_block (heap_setCell_other w ⟨x.c,0,none⟩ x.e _ G.out)) (by simp) (fun g _ _ hg=>heap_setCell_other w ⟨x.c,0,none⟩ g _ hg),Fz.of_set _ a2.out⟩
 | true=>
  rw[hk] at F
  have ac:=Lh hk
  clear hk
  by_cases h0:st=0
  .have q0:(st == 0)=true:=by simpa using h0
   rw[if_pos ⟨rfl,h0⟩]
   have H0:=Lh h0
   clear h0
   go_enter Tryz.func83,Tryz.ntmps83
   go_wp2_with fail
   refine H.out.mono ?_
   rintro e w1 ⟨rfl,rfl⟩
   go_wp2_with fail
   refine F.out.mono ?_
   rintro e w2 ⟨rfl,rfl⟩
   go_wp2_with fail
   go_ret2
   refine⟨rfl,HK.out.turn HF.out V now x.proved I.out ad.out a3.out (by simp) (World.cell?_setCell_same _ _ _ a1.out) ?_ ?_ (fun o h2 h3=>?_) (fun o=>?_) ?_ (fun g _ af ag=>(heap_setCell_other _ ⟨x.e,2,none⟩ g _ af).trans (heap_setCell_other w ⟨x.c,0,none⟩ g _ ag)),(Fz.of_set _ a2.out).trans (Fz.of_set _ aa.out)⟩
   .exact (World.cell?_setCell_other _ _ _ _ (fun e=>by injection e with _ e _; omega)).trans ((z.out 3).trans G3.out)
   .exact (World.cell?_setCell_other _ _ _ _ (fun e=>G.out (by injection e))).trans a0.out
   .exact (World.cell?_setCell_other _ _ _ _ (fun e=>by injection e with _ e _; omega)).trans (z.out o)
   .rw[World.frozen?_setCell]; exact World.frozen?_of_block (heap_setCell_other w ⟨x.c,0,none⟩ x.e _ G.out)
   .simp
  .have q0:(st == 0)=false:=by simpa using h0
   rw[if_neg (fun e=>h0 e.2)]
   clear h0
   go_enter Tryz.func83,Tryz.ntmps83
   go_wp2_with fail
   refine H.out.mono ?_
   rintro e w1 ⟨rfl,rfl⟩
   go_wp2_with fail
   refine F.out.mono ?_
   rintro e w2 ⟨rfl,rfl⟩
   go_wp2_with fail
   go_ret2
   refine⟨rfl,HK.out.turn HF.out V x.since x.proved I.out a5.out a3.out (by simp) a1.out ((z.out 3).trans G3.out) a0.out (fun o _ _=>z.out o) (fun o=>World.frozen?_of_block (heap_setCell_other w ⟨x.c,0,none⟩ x.e _ G.out)) (by simp) (fun g _ _ hg=>heap_setCell_other w ⟨x.c,0,none⟩ g _ hg),Fz.of_set _ a2.out⟩
end
section
variable {C R:Nat->Prop} (w:World) (p a:Nat) (L:List (Int × En)) (S:List Int) (id:Int)
theorem Bt.list_put {w F:World} {p a:Nat} {L:List (Int × En)} {S W:List Int} (h:Bt C R w p a L S) (hb:Below w.heap.size w F) {A':Option Addr} {G I:Nat} (hr:Rd (Value.int .u64) F F.heap.size A' G I W) (a0:W.Nodup) (a4:Sn.U64s W)
  (hs:0 < G -> ∀ b o,A'=some ⟨b,o,none⟩->R b):Bt C R (F.setCell ⟨p,1,none⟩ (.slice A' G I)) p a L W:=by
 have z:=h.later hb
 obtain⟨A,n,c,r1,-,-⟩:=z.row
 have a3:p≠a:=fun e=>z.mo.no_cell 0 _ (e ▸ z.c0)
 have a2:=a3.symm
 have a1:∀ x,Value.int .u64 x≠Value.slice A n c:=fun x e=>by cases e
 have hh:∀ g,g≠p->(F.setCell ⟨p,1,none⟩ (.slice A' G I)).heap[g]? = F.heap[g]?:=fun g hg=>heap_setCell_other F ⟨p,1,none⟩ g _ hg
 refine⟨(World.cell?_setCell_other _ _ _ _ (fun e=>by injection e with _ e _; omega)).trans z.c0,by simpa using z.f1,⟨A',G,I,World.cell?_setCell_same _ _ _ r1,?_,hs⟩,a0,a4,z.mo.setCell a2 _,fun q hq=>?_,z.ap,z.ri,z.ui,z.ip,z.ia,z.cr⟩
 .have:=hr.setOther (p:=⟨p,1,none⟩) r1 a1 (.slice A' G I)
  simpa using this
 .have Y:=z.en q hq
  exact Y.blk (hh _ (fun e=>by have J:=z.c0; rw[<- e,Y.k0] at J; cases J)) (hh _ (fun e=>by have J:=z.c0; rw[<- e,Y.kc] at J; cases J))
theorem publish_miss (h:Bt C R w p a L S) (hid:U64 id) (z:fnd L id=none):Calls Tryz.prog 135 #[ptr p,.int .u64 id] w fun e w'=>e=.returned (.int .i64 9)/\w=w':=by
 have H:=Lh (wrong_any w p a L S id h hid)
 rw[z] at H
 clear h hid z
 go_enter Tryz.func135,Tryz.ntmps135
 go_wp2_with fail
 refine H.out.mono ?_
 rintro e F ⟨rfl,rfl⟩
 go_wp2_with fail
 go_ret
 exact⟨rfl,rfl⟩
theorem publish_hit (h:Bt C R w p a L S) (hid:U64 id) {x:En} (Y:fnd L id=some x) (hl:S.length<=1000000):Calls Tryz.prog 135 #[ptr p,.int .u64 id] w fun e w'=>e=.returned (.int .i64 0)/\Bt (cut w C) (ext w R) w' p a L (Sn.sWith S id)/\Fz C w w':=by
 have H:=Lh (wrong_any w p a L S id h hid)
 rw[Y] at H
 obtain⟨A,n,c,c1,G,W⟩:=h.row
 have a7:=Lh (show Sn.Snap w w.heap.size (.agg #[.slice A n c]) S from⟨⟨A,n,c,rfl,G⟩,h.nd,h.us⟩)
 have f1:=h.f1
 have H3:=Lh W
 have a6:=Lh G
 have J:=Lh h
 have HI:=Lh hid
 clear h hid Y G W
 go_enter Tryz.func135,Tryz.ntmps135
 go_wp2_with fail
 refine H.out.mono ?_
 rintro e w1 ⟨rfl,rfl⟩
 go_wp2_with fail
 refine (Sn.with2_any _ S id w a7.out (by omega) HI.out).mono ?_
 rintro e w2 ⟨u,rfl,a8,z,a0⟩
 obtain⟨⟨A2,n2,c2,rfl,a4⟩,a2,a3⟩:=a8
 have a1:=Lw.ltH c1
 have k1:=(z.cell (p:=⟨p,1,none⟩) a1).trans c1
 have kf:=(z.frozen (p:=⟨p,1,none⟩) a1).trans f1
 have a5:0 < n2 -> ∀ b o,A2=some ⟨b,o,none⟩->ext w R b:=by
  rcases a0 with e | ⟨A9,n9,c9,e,I⟩
  .injection e with e; injection e with e; injection e with e; injection e with e1 e2 e3; subst e1 e2; exact fun hn b o e=>by obtain⟨b',o',F,a9,_⟩:=a6.out.at_ hn; have I:=H3.out hn b o e; rw[e] at F; injection F with F; injection F with e3 _; exact .inl ⟨by omega,I⟩
  .injection e with e; injection e with e; injection e with e; injection e with e1 e2 e3; subst e1 e2
   intro _ b o hA
   exact .inr (I b o hA)
 have HP:=Lh (J.out.cutC.list_put z a4 a2 a3 a5)
 have HB:=Lh z
 clear z a5 a4 a2 a3 a0 c1 f1
 go_wp2_with fail
 go_ret
 exact⟨rfl,HP.out,(Fz.of_below HB.out).trans (Fz.of_set _ J.out.ip)⟩
theorem unlist_miss (h:Bt C R w p a L S) (hid:U64 id) (z:fnd L id=none):Calls Tryz.prog 235 #[ptr p,.int .u64 id] w fun e w'=>e=.returned (.int .i64 9)/\w=w':=by
 have H:=Lh (wrong_any w p a L S id h hid)
 rw[z] at H
 clear h hid z
 go_enter Tryz.func235,Tryz.ntmps235
 go_wp2_with fail
 refine H.out.mono ?_
 rintro e F ⟨rfl,rfl⟩
 go_wp2_with fail
 go_ret
 exact⟨rfl,rfl⟩
theorem unlist_hit (h:Bt C R w p a L S) (hid:U64 id) {x:En} (Y:fnd L id=some x) (hl:S.length<=1000000):Calls Tryz.prog 235 #[ptr p,.int .u64 id] w fun e w'=>e=.returned (.int .i64 0)/\Bt (cut w C) (ext w R) w' p a L (Sn.sWithout S id)/\Fz C w w':=by
 have H:=Lh (wrong_any w p a L S id h hid)
 rw[Y] at H
 obtain⟨A,n,c,c1,G,W⟩:=h.row
 have a7:=Lh (show Sn.Snap w w.heap.size (.agg #[.slice A n c]) S from⟨⟨A,n,c,rfl,G⟩,h.nd,h.us⟩)
 have f1:=h.f1
 have H3:=Lh W
 have a6:=Lh G
 have J:=Lh h
 clear h hid Y G W
 go_enter Tryz.func235,Tryz.ntmps235
 go_wp2_with fail
 refine H.out.mono ?_
 rintro e w1 ⟨rfl,rfl⟩
 go_wp2_with fail
 refine (Sn.without2_any _ S id w a7.out (by omega)).mono ?_
 rintro e w2 ⟨u,rfl,a8,z,a0⟩
 obtain⟨⟨A2,n2,c2,rfl,a4⟩,a2,a3⟩:=a8
 have a1:=Lw.ltH c1
 have k1:=(z.cell (p:=⟨p,1,none⟩) a1).trans c1
 have kf:=(z.frozen (p:=⟨p,1,none⟩) a1).trans f1
 have a5:0 < n2 -> ∀ b o,A2=some ⟨b,o,none⟩->ext w R b:=by
  rcases a0 with e | ⟨A9,n9,c9,e,I⟩
  .injection e with e; injection e with e; injection e with e; injection e with e1 e2 e3; subst e1 e2; exact fun hn b o e=>by obtain⟨b',o',F,a9,_⟩:=a6.out.at_ hn; have I:=H3.out hn b o e; rw[e] at F; injection F with F; injection F with e3 _; exact .inl ⟨by omega,I⟩
  .injection e with e; injection e with e; injection e with e; injection e with e1 e2 e3; subst e1 e2
   intro _ b o hA
   exact .inr (I b o hA)
 have HP:=Lh (J.out.cutC.list_put z a4 a2 a3 a5)
 have HB:=Lh z
 clear z a5 a4 a2 a3 a0 c1 f1
 go_wp2_with fail
 go_ret
 exact⟨rfl,HP.out,(Fz.of_below HB.out).trans (Fz.of_set _ J.out.ip)⟩
def cnt (D:List (Int × Ex)) (st:Int):Nat:=(D.filter (fun q=>q.2.word % 4 == st)).length
theorem bl_hit {L:List (Int × En)} {y:Int} {q:Option Nat} (h:(y,q)∈bl L):∃ x,(y,x)∈L/\q=some x.e:=by
 obtain⟨r,z,e⟩:=List.mem_map.1 h
 injection e with e1 e2
 exact⟨r.2,by rw[<- e1]; exact z,e2.symm⟩
theorem wo_map {β γ:Type} (L:List (Int × β)) (g:β->γ) (k:Int):wo (L.map fun q=>(q.1,g q.2)) k=(wo L k).map fun q=>(q.1,g q.2):=by
 unfold wo; rw[List.filter_map]; rfl
theorem nextP {w:World} {ops:Array Oper} {rest:List Oper} {o:Oper} {z:Act} {Q:Exit->Act->World->Prop} (hg:o.guard=none) (it:Operand) (a2:o.op=Op.next it false) (b r:Nat) (l left:List (Int × En)) (hit:z.eval it=.pointer (some ⟨r,0,none⟩)) (h:Rg Tryz.prog 25 eP w b r (bl l) (bl left))
  (a0:left=[] -> wpList Tryz.prog ops Q rest (z.put o.dst (.tuple #[.bool false])) w)
  (a1:∀ y (x:En) w',(y,x)∈left->U64 y->Rg Tryz.prog 25 eP w' b r (bl l) (bl (wo left y))->w'.rangeLeft b r < w.rangeLeft b r->w.grownBy w' (some r)->w'.heap.size=w.heap.size ->
   (Instr.entry (.pointer (some ⟨r,0,none⟩))).run Tryz.prog w'=.ok (.tuple #[.int .u64 y,.pointer (some ⟨x.e,0,none⟩)]) w'->wpList Tryz.prog ops Q rest (z.put o.dst (.tuple #[.bool true,.int .u64 y,.pointer (some ⟨x.e,0,none⟩)])) w'):wpList Tryz.prog ops Q (o :: rest) z w:=
 next1 w hg it a2 25 Tryz.underlying25 b r (bl l) (bl left) hit h (fun G=>a0 (by simpa [bl] using G)) fun y q w' I J F W Y h6 h7=>by
  obtain⟨x,hx,rfl⟩:=bl_hit I
  rw[wo_map left (fun x:En=>some x.e) y] at F
  exact a1 y x w' hx J F W Y h6 h7
end
def bW (D:List (Int × Ex)) (id:Int):Int:=((fnd D id).map Ex.word).getD 0
def bV (D:List (Int × Ex)) (id old st:Int):Int:=match fnd D id with
 | none=>0
 | some x=>Wd.wSwap x.word old st
def bK (D:List (Int × Ex)) (id old st:Int):Bool:=match fnd D id with
 | none=>false
 | some x=>Wd.wSwapOk x.word old st
def bE (D:List (Int × Ex)) (id:Int):Value:=match fnd D id with
 | none=>.agg #[.int .u64 0,.int .u64 0,.int .u64 0,.int .u64 0,.int .u64 0]
 | some x=>.agg #[.int .u64 id,.int .u64 x.word,.int .u64 x.born,.int .u64 x.since,.int .u64 x.proved]
def kn {β:Type} (D:List (Int × β)) (id:Int):Int:=if (fnd D id).isSome then 0 else 9
section
variable {C R:Nat->Prop} (w:World) (p a:Nat) (D:List (Int × Ex)) (S:List Int) (id:Int)
theorem fnd_ab (L:List (Int × En)) (id:Int):fnd (ab L) id=(fnd L id).map En.x:=fnd_map (L:=L) (g:=En.x) id
theorem bW_u64 {D:List (Int × Ex)} (h:Bx C R w p a D S) (id:Int):U64 (bW D id):=by
 unfold bW
 cases hf:fnd D id with
 | none=>exact⟨by simp,by simp⟩
 | some x=>exact (h.ui _ (fnd_some hf)).2.1
theorem load_any (h:Bx C R w p a D S) (hid:U64 id):Calls Tryz.prog 13 #[ptr p,.int .u64 id] w fun e w'=>e=.returned (.tuple #[.int .u64 (bW D id),.bool (fnd D id).isSome])/\w=w':=by
 obtain⟨L,h,rfl⟩:=h
 refine (loadT_any w p a L S id h hid).mono fun e w' ⟨z,hw⟩=>⟨?_,hw⟩
 rw[z]
 unfold bW
 rw[fnd_ab]
 cases fnd L id <;> rfl
theorem swap_any (h:Bx C R w p a D S) (hid:U64 id) (old st now:Int) (I:U64 old) (G:U64 now):Calls Tryz.prog 83 #[ptr p,.int .u64 id,.int .u64 old,.int .i64 st,.int .u64 now] w fun e w'=>e=.returned (.tuple #[.int .u64 (bV D id old st),.bool (bK D id old st)])/\Bx C R w' p a (up D id (exS old st now)) S/\Fz C w w':=by
 obtain⟨L,h,rfl⟩:=h
 cases hf:fnd L id with
 | none=>
  have z:fnd (ab L) id=none:=by rw[fnd_ab,hf]; rfl
  refine (swapT_miss w p a L S id h hid hf old st now).mono ?_
  rintro e w' ⟨rfl,rfl⟩
  refine⟨by unfold bV bK; rw[z],⟨L,h,?_⟩,Fz.refl _ _⟩
  rw[up_none (fnd_no z)]
 | some x=>
  have z:fnd (ab L) id=some x.x:=by rw[fnd_ab,hf]; rfl
  refine (swapT_hit w p a L S id h hid hf old st now I G).mono ?_
  rintro e w' ⟨rfl,F,J⟩
  refine⟨by unfold bV bK; rw[z],⟨_,F,?_⟩,J⟩
  unfold ab up
  rw[List.map_map,List.map_map]
  apply List.map_congr_left
  intro q hq
  simp only[Function.comp]
  by_cases hi:q.1=id
  .have:q.2=x:=h.ri.nd.uniq (k:=id) (by rw[<- hi]; exact hq) (fnd_some hf)
   rw[if_pos hi,if_pos hi,this]
   rfl
  .rw[if_neg hi,if_neg hi]
theorem enter_any (h:Bx C R w p a D S) (hid:U64 id) (st now:Int) (J:U64 now) (I:D.length < 1000000):Calls Tryz.prog 73 #[ptr p,.int .u64 id,.int .i64 st,.int .u64 now] w fun e w'=>e=.returned (.int .i64 (eE D id st))/\Bx (ext w C) (cut w R) w' p a (if eE D id st=0 then ins D id ⟨Wd.wOf st 0,now,now,now⟩ else D) S/\Fz C w w':=by
 obtain⟨L,h,rfl⟩:=h
 by_cases hr:id=0\/st < 0\/3 < st
 .have z:eE (ab L) id st=2:=by unfold eE; rw[if_pos hr]
  rw[z,if_neg (by decide)]
  refine (enter_range w p id st now hr).mono ?_
  rintro e w' ⟨rfl,rfl⟩
  exact⟨rfl,⟨L,h.extC,rfl⟩,Fz.refl _ _⟩
 .cases hf:fnd L id with
  | none=>
   have F:fnd (ab L) id=none:=by rw[fnd_ab,hf]; rfl
   have z:eE (ab L) id st=0:=by unfold eE; rw[if_neg hr,F]; rfl
   rw[z,if_pos rfl]
   refine (enter_new w p a L S id h hid st now J hr hf (by simpa using I)).mono ?_
   rintro e w' ⟨rfl,⟨x,hx,G⟩,W⟩
   refine⟨rfl,⟨_,G,?_⟩,W⟩
   rw[<- hx]
   exact ins_map (L:=L) (g:=En.x)
  | some x=>
   have F:fnd (ab L) id=some x.x:=by rw[fnd_ab,hf]; rfl
   have z:eE (ab L) id st=10:=by unfold eE; rw[if_neg hr,F]; rfl
   rw[z,if_neg (by decide)]
   refine (enter_had w p a L S id h hid st now hr hf).mono ?_
   rintro e w' ⟨rfl,rfl⟩
   exact⟨rfl,⟨L,h.extC,rfl⟩,Fz.refl _ _⟩
theorem publish_any (h:Bx C R w p a D S) (hid:U64 id) (G:S.length<=1000000):Calls Tryz.prog 135 #[ptr p,.int .u64 id] w fun e w'=>e=.returned (.int .i64 (kn D id))/\Bx (cut w C) (ext w R) w' p a D (if (fnd D id).isSome then Sn.sWith S id else S)/\Fz C w w':=by
 obtain⟨L,h,rfl⟩:=h
 cases hf:fnd L id with
 | none=>
  have z:fnd (ab L) id=none:=by rw[fnd_ab,hf]; rfl
  refine (publish_miss w p a L S id h hid hf).mono ?_
  rintro e w' ⟨rfl,rfl⟩
  refine⟨by unfold kn; rw[z]; rfl,⟨L,by rw[z]; exact h.cutC,rfl⟩,Fz.refl _ _⟩
 | some x=>
  have z:fnd (ab L) id=some x.x:=by rw[fnd_ab,hf]; rfl
  refine (publish_hit w p a L S id h hid hf G).mono ?_
  rintro e w' ⟨rfl,F,I⟩
  refine⟨by unfold kn; rw[z]; rfl,⟨L,by rw[z]; exact F,rfl⟩,I⟩
theorem unlist_any (h:Bx C R w p a D S) (hid:U64 id) (G:S.length<=1000000):Calls Tryz.prog 235 #[ptr p,.int .u64 id] w fun e w'=>e=.returned (.int .i64 (kn D id))/\Bx (cut w C) (ext w R) w' p a D (if (fnd D id).isSome then Sn.sWithout S id else S)/\Fz C w w':=by
 obtain⟨L,h,rfl⟩:=h
 cases hf:fnd L id with
 | none=>
  have z:fnd (ab L) id=none:=by rw[fnd_ab,hf]; rfl
  refine (unlist_miss w p a L S id h hid hf).mono ?_
  rintro e w' ⟨rfl,rfl⟩
  refine⟨by unfold kn; rw[z]; rfl,⟨L,by rw[z]; exact h.cutC,rfl⟩,Fz.refl _ _⟩
 | some x=>
  have z:fnd (ab L) id=some x.x:=by rw[fnd_ab,hf]; rfl
  refine (unlist_hit w p a L S id h hid hf G).mono ?_
  rintro e w' ⟨rfl,F,I⟩
  refine⟨by unfold kn; rw[z]; rfl,⟨L,by rw[z]; exact F,rfl⟩,I⟩
theorem blist_any (h:Bx C R w p a D S):Calls Tryz.prog 21 #[ptr p] w fun e w'=>∃ A n c,e=.returned (.agg #[.slice A n c])/\Rd (Value.int .u64) w w.heap.size A n c S/\Below w.heap.size w w':=by
 obtain⟨L,h,rfl⟩:=h
 refine (list_any w p a L S h).mono ?_
 rintro e w' ⟨A,n,c,rfl,z,_,F⟩
 exact⟨A,n,c,rfl,z,F⟩
theorem bnew_any:Calls Tryz.prog 57 #[] w fun e w'=>e=.returned (ptr (w.heap.size+1))/\Bx (fresh w) (fun _=>False) w' (w.heap.size+1) w.heap.size [] [] /\ Below w.heap.size w w':=
 (new_any w).mono fun e w' ⟨h,z,F⟩=>⟨h,⟨[],z,rfl⟩,F⟩
end
end Go.Proofs.YtoiklelghfckgaaGreatDoor.Ba
end
section
set_option maxRecDepth 100000
set_option maxHeartbeats 8000000
set_option linter.unusedVariables false
namespace Go.Proofs.YtoiklelghfckgaaGreatDoor.Le
open Go.ChangeShapes Go.WideShapes Go.ChangeAt Go.RowKit Go.Maps Rw Hi Mt Ck
theorem t14:Wl.arm [] 7 (cAdd 3 5)=[(7,8)]:=by decide +kernel
theorem d7:Wl.due [(7,8)] 7=[]:=by decide +kernel
theorem l7:Wl.left [(7,8)] 7=[(7,8)]:=by decide +kernel
theorem d8:Wl.due [(7,8)] 8=[(7,8)]:=by decide +kernel
theorem fr3 {w w':World} {a m B:Nat} (h:Fr (some a) (some m) w w') (u:B<=w.heap.size) (ha:B<=a) (z:B<=m):Below B w w':=h.below u (fun k hk=>by injection hk with hk; omega) (fun k hk=>by injection hk with hk; omega)
theorem awake14_any (w:World) (hT:Tb.Tabs w) :
  Calls Tryz.prog 260 #[] w fun e w'=>e=.returned (.bool true)/\Below w.heap.size w w':=by
 have HT:=Lh hT
 clear hT
 go_enter Tryz.func260,Tryz.ntmps260
 go_wp2_with fail
 refine (new_any _ 5).mono ?_
 rintro e w1 ⟨x,rfl,k1,b1,xp,G,xb,xq,I⟩
 have K1:=Lh k1
 have J:=Lh b1
 clear k1 b1
 go_wp2_with fail
 refine (begin_leak w1 x 5 [] [] [] 7 1 3 K1.out (by omega) (by omega) (by omega) (by omega) (by omega) (by omega) rfl (by decide) (by decide)).mono ?_
 rintro e w2 ⟨rfl,k2,f2⟩
 rw[t14] at k2
 have K2:=Lh k2
 have h:=Lh (J.out.trans (fr3 f2 J.out.size G I))
 clear k2 f2 K1
 go_wp2_with fail
 refine (Cn.Awake13_any _ (HT.out.below h.out)).mono ?_
 rintro e w3 ⟨rfl,u⟩
 have K3:=Lh (K2.out.later u)
 have Q:=Lh (h.out.trans (u.mono h.out.size))
 clear u K2
 go_wp2_with fail
 refine (leaks_any w3 x 5 _ [] [(7,8)] 7 K3.out (by omega) (by decide) (by decide)).mono ?_
 rintro e w4 ⟨A4,c4,rfl,r4,z,f4⟩
 rw[d7,l7] at z
 have K4:=Lh z
 have W:=Lh (Q.out.trans (fr3 f4 Q.out.size G I))
 have e4:((Wl.due [(7,8)] 7).length:Int)=0:=by rw[d7]; rfl
 clear r4 z f4 K3
 go_wp2_with fail
 refine (leaks_any w4 x 5 _ [] [(7,8)] 8 K4.out (by omega) (by decide) (by decide)).mono ?_
 rintro e w5 ⟨A5,c5,rfl,F,k5,f5⟩
 rw[d8] at F ⊢
 have R5:=Lh (Rd.own_rd F)
 have Y:=Lh (W.out.trans (fr3 f5 W.out.size G I))
 have a0:=Y.out.size
 clear F k5 f5 K4 e4
 go_wp2_with fail
 refine (Sl.equal_any A5 (some ⟨w5.heap.size,0,none⟩) 1 c5 1 1 [7] [7] _ _ _ (R5.out.alloc (Nat.le_refl _) _) (rd_one (enc:=Value.int .u64) w5 7 25)).mono ?_
 rintro e w6 ⟨rfl,q,rfl⟩
 rw[decide_eq_true rfl]
 go_wp2_with fail
 go_ret
 exact⟨rfl,Rw.bdN (Y.out.alloc a0 _) q⟩
theorem Awake14_any (w:World) (h:Tb.Tabs w) :
  Calls Tryz.prog 253 #[] w fun e w'=>e=.returned (.bool true)/\Below w.heap.size w w':=by
 go_enter Tryz.func253,Tryz.ntmps253
 go_wp2_with fail
 refine (awake14_any _ h).mono ?_
 rintro e u ⟨rfl,b1⟩
 go_wp2_with fail
 go_ret
 exact⟨rfl,b1⟩
end Go.Proofs.YtoiklelghfckgaaGreatDoor.Le
namespace Go.Proofs.YtoiklelghfckgaaGreatDoor.Ba
open Go Go.ChangeShapes Go.WideShapes Go.ChangeAt Go.RowKit Go.Maps Rw Hi Mt
theorem awake15_any (w:World) (hT:Tb.Tabs w) :
  Calls Tryz.prog 236 #[] w fun e w'=>e=.returned (.bool true)/\Below w.heap.size w w':=by
 have HT:=Lh hT
 clear hT
 go_enter Tryz.func236,Tryz.ntmps236
 go_wp2_with fail
 refine (bnew_any w).mono ?_
 rintro e w1 ⟨rfl,Y,b1⟩
 have H1:=Lh Y
 have F:=Lh b1
 clear Y b1
 go_wp2_with fail
 refine (enter_any w1 _ _ _ _ 1 H1.out (by decide) 0 5 (by decide) (by decide)).mono ?_
 rintro e w2 ⟨rfl,I,z2⟩
 have u:eE ([] : List (Int × Ex)) 1 0=0:=rfl
 have z:ins ([] : List (Int × Ex)) 1 ⟨Wd.wOf 0 0,5,5,5⟩=[(1,⟨0,5,5,5⟩)]:=rfl
 rw[u,if_pos rfl,z] at I
 rw[u]
 have Q:=Lh I
 have J:=Lh (F.out.trans (z2.below F.out.size (fun k h=>h)))
 clear I z2 u z
 go_wp2_with fail
 refine (load_any w2 _ _ _ _ 1 Q.out (by decide)).mono ?_
 rintro e w3 ⟨rfl,rfl⟩
 have u:bW [((1:Int),(⟨0,5,5,5⟩:Ex))] 1=0:=rfl
 have z:(fnd [((1:Int),(⟨0,5,5,5⟩:Ex))] 1).isSome=true:=rfl
 rw[u,z]
 clear u z
 go_wp2_with fail
 refine (swap_any w2 _ _ _ _ 1 Q.out (by decide) 0 1 6 (by decide) (by decide)).mono ?_
 rintro e w3 ⟨rfl,h3,z3⟩
 have u:bV [((1:Int),(⟨0,5,5,5⟩:Ex))] 1 0 1=5:=rfl
 have z:bK [((1:Int),(⟨0,5,5,5⟩:Ex))] 1 0 1=true:=rfl
 rw[u,z]
 have G:=Lh (J.out.trans (z3.below J.out.size (fun k h=>by rcases h with h | h; exact h.2; exact Nat.le_trans F.out.size h)))
 clear u z h3 z3
 go_wp2_with fail
 refine (Le.Awake14_any w3 (HT.out.below G.out)).mono ?_
 rintro e w4 ⟨rfl,W⟩
 have B4:=Lh (G.out.trans (W.mono G.out.size))
 clear W
 go_wp2_with fail
 go_ret
 exact⟨rfl,B4.out⟩
theorem Awake15_any (w:World) (u:Tb.Tabs w) :
  Calls Tryz.prog 204 #[] w fun e w'=>e=.returned (.bool true)/\Below w.heap.size w w':=by
 go_enter Tryz.func204,Tryz.ntmps204
 go_wp2_with fail
 refine (awake15_any w u).mono ?_
 rintro e z ⟨rfl,h⟩
 go_wp2_with fail
 go_ret
 exact⟨rfl,h⟩
end Go.Proofs.YtoiklelghfckgaaGreatDoor.Ba
end
section
set_option linter.unusedVariables false
namespace Go.Proofs.YtoiklelghfckgaaGreatDoor.So
open Go.ChangeShapes Go.WideShapes Go.ChangeAt Go.RowKit Rw
structure Row (w:World) (g n:Nat) (d:List Int):Prop where
 len:d.length=n
 cell:∀ j x,d[j]? = some x->w.cell? ⟨g,j,none⟩=some (.int .u64 x)
 free:∀ j,j < n->w.frozen? ⟨g,j,none⟩=false
end Go.Proofs.YtoiklelghfckgaaGreatDoor.So
namespace Go.Proofs.YtoiklelghfckgaaGreatDoor.So
open Go.ChangeShapes Go.WideShapes Go.ChangeAt Go.RowKit Rw Go.Shelf
end Go.Proofs.YtoiklelghfckgaaGreatDoor.So
namespace Go.Proofs.YtoiklelghfckgaaGreatDoor.So
open Go.ChangeShapes Go.WideShapes Go.ChangeAt Go.RowKit Rw
def St (g n rb:Nat) (d:List Int) (w w':World):Prop:=∃ (d':List Int) (v:Int),d'.Perm d/\Row w' g n d'/\w'.cell? ⟨rb,0,none⟩=some (.int .u64 v)/\w'.frozen? ⟨rb,0,none⟩=false/\w.grownBy w' (some g)
end Go.Proofs.YtoiklelghfckgaaGreatDoor.So
namespace Go.Proofs.YtoiklelghfckgaaGreatDoor.So
open Go.ChangeShapes Go.WideShapes Go.ChangeAt Go.RowKit Rw
open Go.Sort (swp ltInt insOuter insInner insertionSort siftDown heapBuild heapPop heapSort PermIn SortedIn swo_ltInt)
end Go.Proofs.YtoiklelghfckgaaGreatDoor.So
namespace Go.Proofs.YtoiklelghfckgaaGreatDoor.So
open Go.ChangeShapes Go.WideShapes Go.ChangeAt Go.RowKit Rw
open Go.Sort (swp ltInt siftDown heapBuild heapPop heapSort PermIn SortedIn swo_ltInt)
section
variable {hi f r k:Nat} {A:Array Int} {x y z:Int}
end
end Go.Proofs.YtoiklelghfckgaaGreatDoor.So
namespace Go.Proofs.YtoiklelghfckgaaGreatDoor.So
open Go.ChangeShapes Go.WideShapes Go.ChangeAt Go.RowKit Rw
open Go.Sort (swp ltInt PermIn SortedIn)
structure Pt (p:Int->Bool) (D:Array Int) (a b:Nat) (pv:Int) (i j:Int) (A:Array Int):Prop where
 perm:PermIn a b D A
 piv:A[a]! = pv
 lo:∀ k:Nat,a < k->(k:Int) < i->p A[k]! = true
 hi:∀ k:Nat,j < (k:Int)->k < b->p A[k]! = false
section
variable {p:Int->Bool} {D A:Array Int} {a b:Nat} {pv i j x:Int}
end
end Go.Proofs.YtoiklelghfckgaaGreatDoor.So
namespace Go.Proofs.YtoiklelghfckgaaGreatDoor.So
open Go.ChangeShapes Go.WideShapes Go.ChangeAt Go.RowKit Rw
open Go.Sort (swp ltInt PermIn SortedIn partialIns partialInsertionSort scanSorted shiftDown shiftUp swo_ltInt)
section
variable {a b s i:Nat} {A:Array Int} {x y:Int}
end
end Go.Proofs.YtoiklelghfckgaaGreatDoor.So
namespace Go.Proofs.YtoiklelghfckgaaGreatDoor.So
open Go.ChangeShapes Go.WideShapes Go.ChangeAt Go.RowKit Rw
end Go.Proofs.YtoiklelghfckgaaGreatDoor.So
namespace Go.Proofs.YtoiklelghfckgaaGreatDoor.So
open Go.ChangeShapes Go.WideShapes Go.ChangeAt Go.RowKit Rw
open Go.Sort (swp ltInt PermIn SortedIn)
end Go.Proofs.YtoiklelghfckgaaGreatDoor.So
namespace Go.Proofs.YtoiklelghfckgaaGreatDoor.So
open Go.ChangeShapes Go.WideShapes Go.ChangeAt Go.RowKit Rw
open Go.Sort (swp ltInt PermIn SortedIn swo_ltInt)
section
variable {D X Y:Array Int} {a b A B r:Nat} {pv:Int}
end
end Go.Proofs.YtoiklelghfckgaaGreatDoor.So
namespace Go.Proofs.YtoiklelghfckgaaGreatDoor.Iu
open Go Go.ChangeMaps Go.Maps Go.MapKept Go.RowKit Go.Sort Go.Shelf Rw Mt Ba
section
variable {β:Type} {E:Enc β} {P:Program} {k e t:TypeId} {F:Fence} {n:Nat} (w:World) {ops:Array Oper} {rest:List Oper} {o:Oper} {a:Act} {Q:Exit->Act->World->Prop}
end
abbrev eU:Int->Value:=Value.int .u64
def ren:Ren:={ f:=fun _=>0,t:=fun k=>if k=24 then 30 else if k=26 then 25 else 0,g:=fun x=>x }
abbrev rec_ (fn:FuncId) (sv:Value) (Bs D:Nat) (st:LoopState) (pend:Option Code):Loop:=AnyZI.apRec ren fn sv Bs D st pend
structure Ap (w0:World) (fn:FuncId) (sv:Value) (Bs l D:Nat) (ss:List Int) (W:World):Prop where
 box:∃ v,W.heap[Bs]? = some (.cells #[v] 30 (0,0))/\W.ownsRow w0.heap.size 25 1 v ss.length (ss.map eU)
 L:W.heap[l]? = some (.loop (rec_ fn sv Bs D .ready none))
 K:W.heap[D]? = some (.deferred (some []))
 below:Below w0.heap.size w0 W
end Go.Proofs.YtoiklelghfckgaaGreatDoor.Iu
end
section
set_option linter.unusedVariables false
namespace Go.Proofs.YtoiklelghfckgaaGreatDoor.Ba
open Go.ChangeShapes Go.WideShapes Go.ChangeAt Go.RowKit Go.Maps Rw Hi Mt
structure Ax where
 do_:Int
 id:Int
 old:Int
 now:Int
 st:Int
structure Ax.ok (a:Ax):Prop where
 d:0<=a.do_/\a.do_<=255
 i:U64 a.id
 o:U64 a.old
 n:U64 a.now
 s:-9223372036854775808<=a.st/\a.st<=9223372036854775807
end Go.Proofs.YtoiklelghfckgaaGreatDoor.Ba
end
