/- A part of the claim: the texts DocGS StepsMath StepsKit. -/
import Derived.Test.YtaeemilldmhbnaaGreatDoorZDocGA
import Derived.Test.YtaeemilldmhbnaaGreatDoorZDocGB
import Derived.Test.YtaeemilldmhbnaaGreatDoorZGDocGx
import Derived.Test.YtaeemilldmhbnaaGreatDoorZGBegin
import Derived.Test.YtaeemilldmhbnaaGreatDoorZGGive
import Derived.Test.YtaeemilldmhbnaaGreatDoorZGAwZ
import Derived.Test.YtaeemilldmhbnaaGreatDoorZTold16
import Derived.Test.YtaeemilldmhbnaaGreatDoorZGStab
import Derived.Maps.Views
set_option maxRecDepth 100000
set_option maxHeartbeats 8000000
set_option linter.unusedVariables false
namespace Go.Proofs.YtaeemilldmhbnaaGreatDoor.Wo
open Go Go.ChangeShapes Go.WideShapes Go.ChangeAt Go.RowKit Go.Deep Go.Maps Rw Hi Mt Ba
open Cn (Cf cfE)
section
variable (w:World) {K:Nat→Prop} {v:Dv} {g:Gv} {s:Ws} {N:List Int}
theorem dg_step {q:Gw} (h:Dw K w v q.s q.N) (u:∀ g,w.heap.size≤g→K g) (z:q.g.ok) (G:Nd q.s.D) (hn:q.s.D.length≤1000) (I:∀ p∈q.s.D,U64 p.2.word) (Q:q.s.sl.length≤1000) (a1:q.s.n≤1000) (J:q.N.length≤1000) (a0:q.s.ev.length≤1000) (hS:q.s.S.length≤1000) (Y:0≤q.s.live∧q.s.live≤1000000):DDoes w K v q (stepG q):=by
 obtain ⟨g,s,N⟩:=q
 by_cases e0:g.st=sOffer
 ·rw [stepG_offer e0]
  unfold offerG
  by_cases hc:s.closed=true∨g.id∈N
  ·rw [if_pos hc]
   by_cases F:s.closed=true
   ·exact dg_offer_closed w h u e0 F
   ·exact dg_offer_marked w h u e0 J (by simpa using F) (hc.resolve_left F)
  ·rw [if_neg hc]
   have F:s.closed=false:=by simpa using fun e=>hc (.inl e)
   have W:¬ g.id∈N:=fun e=>hc (.inr e)
   by_cases hf:(St.fillR s.sl g.id).2.2=true
   ·rw [if_pos hf]; exact dg_offer_true w h u e0 J Q F W hf
   ·rw [if_neg hf]; exact dg_offer_false w h u e0 J Q F W (by simpa using hf)
 by_cases e1:g.st=sFree
 ·rw [stepG_free e1]
  unfold swapG
  by_cases hk:bK s.D g.id g.word 0=true
  ·rw [if_pos hk]; exact dg_free_yes w h u e1 z.w G hn I hk
  ·rw [if_neg hk]; exact dg_free_no w h u e1 z.w G hn I (by simpa using hk)
 by_cases e2:g.st=sStash
 ·rw [stepG_stash e2]; exact dg_stash w h u e2
 by_cases e3:g.st=sAgain
 ·rw [stepG_again e3]
  unfold againG
  by_cases hw:s.closed=true∨0 < St.waitN s.sl
  ·rw [if_pos hw]; exact dg_again_true w h u e3 Q (by simpa using hw)
  ·rw [if_neg hw]; exact dg_again_false w h u e3 Q (by simpa using hw)
 by_cases e4:g.st=sBack
 ·rw [stepG_back e4]
  unfold swapG
  by_cases hk:bK s.D g.id g.word 1=true
  ·rw [if_pos hk]; exact dg_back_yes w h u e4 z.w G hn I hk
  ·rw [if_neg hk]; exact dg_back_no w h u e4 z.w G hn I (by simpa using hk)
 by_cases e5:g.st=sClose
 ·rw [stepG_close e5]
  unfold closeG
  by_cases hk:bK s.D g.id g.word 3=true
  ·rw [if_pos hk]; exact dg_close_yes w h u e5 z.i z.w G hn I a1 J a0 hk
  ·rw [if_neg hk]; exact dg_close_no w h u e5 z.i z.w G hn I (by simpa using hk)
 by_cases e6:g.st=sUnlist
 ·rw [stepG_unlist e6]; exact dg_unlist w h u e6 hn hS
 by_cases e7:g.st=sShrink
 ·rw [stepG_shrink e7]; exact dg_shrink w h u e7 Y.1 Y.2
 unfold stepG
 rw [if_neg e0,if_neg e1,if_neg e2,if_neg e3,if_neg e4,if_neg e5,if_neg e6,if_neg e7]
 exact dg_none w h u (ba_ne e0) (ba_ne e1) (ba_ne e2) (ba_ne e3) (ba_ne e4) (ba_ne e5) (ba_ne e6) (ba_ne e7)
end
structure Gs (q:Gw) (k:Nat):Prop where
 mk_:q.s.M=Le.mk q.N
 ok:q.g.ok
 nw:U64 q.s.now
 sl:q.s.sl.length≤900
 cl:q.s.C.length≤100+k
 el:q.s.ev.length≤100+k
 S:q.s.S.length≤900
 lv:0≤q.s.live∧q.s.live≤1000
 dl:q.s.D.length≤12
 ll:q.s.L.length≤12
 sd:Le.Sd q.s.L
 nl:q.N.length≤900
 tl:q.s.T.length≤900
 n_:q.s.n≤900
 sz:q.g.st.size≤20
section
variable {q:Gw} {k:Nat}
theorem Gs.to (h:Gs q k) (g:Gv) (s:Ws) (N:List Int) (W:g.ok) (Y:g.st.size≤20) (z:s.M=Le.mk N) (I:s.now=q.s.now) (J:s.sl.length≤900) (a4:s.C.length≤q.s.C.length+1) (a5:s.ev.length≤q.s.ev.length+1) (a6:s.S.length≤q.s.S.length) (Q:0≤s.live∧s.live≤1000) (a8:s.D.length=q.s.D.length) (u:s.L=q.s.L) (a0:N.length≤q.N.length) (F:s.T=q.s.T) (G:s.n=q.s.n):Gs ⟨g,s,N⟩ (k+1):=by
 have h1:=h.cl; have h2:=h.el; have h3:=h.S; have h4:=h.dl; have h5:=h.nl
 exact ⟨z,W,by show U64 s.now; rw [I]; exact h.nw,J,by show s.C.length≤_; omega,by show s.ev.length≤_; omega,by show s.S.length≤_; omega,Q,by show s.D.length≤_; omega,by show s.L.length≤_; rw [u]; exact h.ll,by show Le.Sd s.L; rw [u]; exact h.sd,by show N.length≤_; omega,by show s.T.length≤_; rw [F]; exact h.tl,by show s.n≤_; rw [G]; exact h.n_,Y⟩
theorem Gs.swap (h:Gs q k) (st:Int) (t:ByteArray) (u:t.size≤20):Gs (swapG q st t) (k+1):=by
 unfold swapG
 split
 ·next hk=>exact h.to _ _ _ ⟨h.ok.i,bV_ok hk h.ok.w⟩ u h.mk_ rfl h.sl (Nat.le_succ _) (Nat.le_succ _) (Nat.le_refl _) h.lv (up_len _) rfl (Nat.le_refl _) rfl rfl
 ·exact h.to _ _ _ ⟨h.ok.i,h.ok.w⟩ (by dsimp only; decide) h.mk_ rfl h.sl (Nat.le_succ _) (Nat.le_succ _) (Nat.le_refl _) h.lv (up_len _) rfl (Nat.le_refl _) rfl rfl
theorem Gs.step (h:Gs q k):Gs (stepG q) (k+1):=by
 have u:=St.fillR_len q.s.sl q.g.id
 have F:=h.sl
 have z:=h.lv
 unfold stepG
 split
 ·unfold offerG
  split
  ·exact h.to _ _ _ ⟨h.ok.i,h.ok.w⟩ (by dsimp only; decide) h.mk_ rfl h.sl (Nat.le_succ _) (Nat.le_succ _) (Nat.le_refl _) h.lv rfl rfl (Nat.le_refl _) rfl rfl
  ·split
   ·exact h.to _ _ _ ⟨h.ok.i,h.ok.w⟩ (by dsimp only; decide) h.mk_ rfl (by show (St.fillR q.s.sl q.g.id).1.length≤900; omega) (Nat.le_succ _) (Nat.le_succ _) (Nat.le_refl _) h.lv rfl rfl (Nat.le_refl _) rfl rfl
   ·exact h.to _ _ _ ⟨h.ok.i,h.ok.w⟩ (by dsimp only; decide) h.mk_ rfl (by show (St.fillR q.s.sl q.g.id).1.length≤900; omega) (Nat.le_succ _) (Nat.le_succ _) (Nat.le_refl _) h.lv rfl rfl (Nat.le_refl _) rfl rfl
 split
 ·exact h.swap 0 sStash (by decide)
 split
 ·exact h.to _ _ _ ⟨h.ok.i,h.ok.w⟩ (by dsimp only; decide) h.mk_ rfl h.sl (Nat.le_succ _) (Nat.le_succ _) (Nat.le_refl _) h.lv rfl rfl (Nat.le_refl _) rfl rfl
 split
 ·refine h.to _ _ _ ⟨h.ok.i,h.ok.w⟩ ?_ h.mk_ rfl h.sl (Nat.le_succ _) (Nat.le_succ _) (Nat.le_refl _) h.lv rfl rfl (Nat.le_refl _) rfl rfl
  show (if q.s.closed=true∨0 < St.waitN q.s.sl then sBack else sDone).size≤20
  split <;> decide
 split
 ·exact h.swap 1 sOffer (by decide)
 split
 ·unfold closeG
  split
  ·refine h.to _ _ _ ⟨h.ok.i,h.ok.w⟩ (by dsimp only; decide) rfl rfl h.sl ?_ ?_ (Nat.le_refl _) h.lv (up_len _) rfl (List.length_filter_le _ _) rfl rfl
   ·show (clsC q.s.n q.s.C q.g.id).length≤_
    unfold clsC; split
    ·simp
    ·omega
   ·show (q.s.ev ++ [_]).length≤_
    simp
  ·exact h.to _ _ _ ⟨h.ok.i,h.ok.w⟩ (by dsimp only; decide) h.mk_ rfl h.sl (Nat.le_succ _) (Nat.le_succ _) (Nat.le_refl _) h.lv rfl rfl (Nat.le_refl _) rfl rfl
 split
 ·refine h.to _ _ _ ⟨h.ok.i,h.ok.w⟩ (by dsimp only; decide) h.mk_ rfl h.sl (Nat.le_succ _) (Nat.le_succ _) ?_ h.lv rfl rfl (Nat.le_refl _) rfl rfl
  show (unlS q.s.D q.s.S q.g.id).length≤_
  unfold unlS; split
  ·exact Sn.sWithout_len _ _
  ·exact Nat.le_refl _
 split
 ·refine h.to _ _ _ ⟨h.ok.i,h.ok.w⟩ (by dsimp only; decide) h.mk_ rfl h.sl (Nat.le_succ _) (Nat.le_succ _) (Nat.le_refl _) ?_ rfl rfl (Nat.le_refl _) rfl rfl
  show 0≤shrV q.s.live∧shrV q.s.live≤1000
  unfold shrV; split <;> omega
 ·exact h.to _ _ _ ⟨h.ok.i,h.ok.w⟩ (by dsimp only; decide) h.mk_ rfl h.sl (Nat.le_succ _) (Nat.le_succ _) (Nat.le_refl _) h.lv rfl rfl (Nat.le_refl _) rfl rfl
theorem Gs.it (h:Gs q 0):∀ k,Gs (itG k q) k
 | 0=>h
 | k+1=>(Gs.it h k).step
end
theorem lit_ne {x:ByteArray} {l:List UInt8} (h:¬ x=⟨l.toArray⟩):(Lit.string x.data.toList)≠.string l:=fun e=>h (by
 injection e with e
 cases x with | mk d=>simp only at e; rw [← e])
theorem acts_no {x:ByteArray} (h:¬ x=sOffer) (u:¬ x=sFree) (z:¬ x=sStash) (F:¬ x=sAgain) (G:¬ x=sBack) (I:¬ x=sClose) (J:¬ x=sUnlist) (Q:¬ x=sShrink):actD.atKey (.string x.data.toList) (.lit (.int .u64 0))=.lit (.int .u64 0):=by
 unfold actD
 rw [atKey_put_other (lit_ne Q),atKey_put_other (lit_ne J),atKey_put_other (lit_ne I),atKey_put_other (lit_ne G),atKey_put_other (lit_ne F),atKey_put_other (lit_ne z),atKey_put_other (lit_ne u),atKey_put_other (lit_ne h)]
 rfl
section
variable (w:World) {base:Nat} {col:Nat→Nat} {x:Wp} {q:Gw} {k:Nat}
theorem give_any (h:Wv base col w x q.s) (u:Gs q k) (hk:k≤500):Does 26 w base col x q (stepG q):=by
 have h1:=u.cl; have h2:=u.el; have h3:=u.sl; have h4:=u.S; have h5:=u.lv; have h6:=u.sz
 by_cases hst:q.g.st=sOffer∨q.g.st=sFree∨q.g.st=sStash∨q.g.st=sAgain∨q.g.st=sBack∨q.g.st=sClose∨q.g.st=sUnlist∨q.g.st=sShrink∨q.g.st=sDone
 ·exact give_step w h u.mk_ u.ok u.nw (by omega) (by omega) (by omega) (by omega) ⟨h5.1,by omega⟩ hst
 ·have z:¬ q.g.st=sOffer:=fun e=>hst (.inl e)
  have F:¬ q.g.st=sFree:=fun e=>hst (.inr (.inl e))
  have G:¬ q.g.st=sStash:=fun e=>hst (.inr (.inr (.inl e)))
  have I:¬ q.g.st=sAgain:=fun e=>hst (.inr (.inr (.inr (.inl e))))
  have J:¬ q.g.st=sBack:=fun e=>hst (.inr (.inr (.inr (.inr (.inl e)))))
  have Q:¬ q.g.st=sClose:=fun e=>hst (.inr (.inr (.inr (.inr (.inr (.inl e))))))
  have W:¬ q.g.st=sUnlist:=fun e=>hst (.inr (.inr (.inr (.inr (.inr (.inr (.inl e)))))))
  have Y:¬ q.g.st=sShrink:=fun e=>hst (.inr (.inr (.inr (.inr (.inr (.inr (.inr (.inl e))))))))
  have hn:=give_none w h (acts_no z F G I J Q W Y) (by unfold maxLen; omega)
  unfold stepG
  rw [if_neg z,if_neg F,if_neg G,if_neg I,if_neg J,if_neg Q,if_neg W,if_neg Y]
  exact hn
theorem dgive_any {K:Nat→Prop} {v:Dv} (h:Dw K w v q.s q.N) (F:∀ g,w.heap.size≤g→K g) (G:Nd q.s.D) (I:∀ p∈q.s.D,U64 p.2.word) (u:Gs q k) (hk:k≤500):DDoes w K v q (stepG q):=by
 have J:=u.cl; have Q:=u.el; have W:=u.sl; have Y:=u.S; have z:=u.lv; have h6:=u.dl; have h7:=u.n_; have h8:=u.nl
 exact dg_step w h F u.ok G (by omega) I (by omega) (by omega) (by omega) (by omega) (by omega) ⟨z.1,by omega⟩
end
theorem park_all (l:List Int) (s:Ws):(l.foldl parkW s).now=s.now∧(l.foldl parkW s).D=s.D∧(l.foldl parkW s).S=s.S∧(l.foldl parkW s).n=s.n∧(l.foldl parkW s).C=s.C∧(l.foldl parkW s).ev=s.ev∧(l.foldl parkW s).live=s.live:=by
 induction l generalizing s with
 | nil=>exact ⟨rfl,rfl,rfl,rfl,rfl,rfl,rfl⟩
 | cons a l ih=>rw [List.foldl_cons]; exact ih (parkW s a)
theorem marks_all (l:List Int) (q:Ws × List Int):(l.foldl markW q).1.now=q.1.now∧(l.foldl markW q).1.D=q.1.D∧(l.foldl markW q).1.S=q.1.S∧(l.foldl markW q).1.n=q.1.n∧(l.foldl markW q).1.C=q.1.C∧(l.foldl markW q).1.ev=q.1.ev∧(l.foldl markW q).1.live=q.1.live∧(l.foldl markW q).1.sl=q.1.sl:=by
 induction l generalizing q with
 | nil=>exact ⟨rfl,rfl,rfl,rfl,rfl,rfl,rfl,rfl⟩
 | cons a l ih=>
  rw [List.foldl_cons]
  have h:=ih (markW q a)
  have e:(markW q a).1.now=q.1.now∧(markW q a).1.D=q.1.D∧(markW q a).1.S=q.1.S∧(markW q a).1.n=q.1.n∧(markW q a).1.C=q.1.C∧(markW q a).1.ev=q.1.ev∧(markW q a).1.live=q.1.live∧(markW q a).1.sl=q.1.sl:=by
   unfold markW
   split <;> exact ⟨rfl,rfl,rfl,rfl,rfl,rfl,rfl,rfl⟩
  exact ⟨h.1.trans e.1,h.2.1.trans e.2.1,h.2.2.1.trans e.2.2.1,h.2.2.2.1.trans e.2.2.2.1,h.2.2.2.2.1.trans e.2.2.2.2.1,h.2.2.2.2.2.1.trans e.2.2.2.2.2.1,h.2.2.2.2.2.2.1.trans e.2.2.2.2.2.2.1,h.2.2.2.2.2.2.2.trans e.2.2.2.2.2.2.2⟩
def cnt3 (l:List Ay):Nat:=l.countP fun y=>y.do_ % 8 == 3
def cnt5 (l:List Ay):Nat:=l.countP fun y=>y.do_ % 8 == 5
theorem play_few {s:Ws} {k:Nat} (h:Pl s [] k) (y:Ay):(playS s y).D.length≤s.D.length+(if y.do_ % 8 == 3 then 1 else 0)∧(playS s y).L.length≤s.L.length+(if y.do_ % 8 == 5 then 1 else 0):=by
 have u:=entD_len h.ri (opnI s.O s.n) y.st s.now
 have z:(bLs s.L y.id y.th s.now).length≤s.L.length+1:=by
  rw [← (bLs_perm h.sd y.id y.th s.now).length_eq]
  exact Le.bL_len s.L y.id y.th s.now
 unfold playS
 split
 ·exact ⟨Nat.le_add_right _ _,Nat.le_add_right _ _⟩
 split
 ·exact ⟨Nat.le_add_right _ _,Nat.le_add_right _ _⟩
 split
 ·exact ⟨Nat.le_add_right _ _,Nat.le_add_right _ _⟩
 split
 ·next e=>exact ⟨by rw [if_pos (by simp [e])]; exact u,Nat.le_add_right _ _⟩
 split
 ·split <;> exact ⟨Nat.le_add_right _ _,Nat.le_add_right _ _⟩
 split
 ·next e=>exact ⟨Nat.le_add_right _ _,by rw [if_pos (by simp [e])]; exact z⟩
 ·exact ⟨Nat.le_add_right _ _,Nat.le_add_right _ _⟩
theorem acts_few (l:List Ay) (u:∀ y∈l,okA y) (h:l.length≤900) (k:Nat) (hk:k≤l.length):((l.take k).foldl playS (newS c8 [] [])).D.length≤cnt3 (l.take k)∧((l.take k).foldl playS (newS c8 [] [])).L.length≤cnt5 (l.take k):=by
 induction k with
 | zero=>exact ⟨Nat.le_refl _,Nat.le_refl _⟩
 | succ k ih=>
  have z:=ih (by omega)
  have hx:=List.getElem?_eq_getElem (show k < l.length by omega)
  have F:=play_few (acts_pl l u k (by omega) h).1 l[k]
  rw [foldl_take playS _ hx]
  have e:l.take (k+1)=l.take k ++ [l[k]]:=by rw [List.take_add_one,hx]; rfl
  rw [e]
  unfold cnt3 cnt5 at *
  rw [List.countP_append,List.countP_append,List.countP_cons,List.countP_cons]
  simp only [List.countP_nil,Nat.zero_add]
  exact ⟨by omega,by omega⟩
theorem tri_cnt (i:Nat) (st:Int):cnt3 (tri i st)=1∧cnt5 (tri i st)=0:=⟨by simp [cnt3,tri],by simp [cnt5,tri]⟩
theorem acts1_cnt (l:List Int) (k:Nat):cnt3 (acts1 l k)=k∧cnt5 (acts1 l k)=0:=by
 induction k with
 | zero=>exact ⟨rfl,rfl⟩
 | succ k ih=>
  have h:=tri_cnt k (l.getD k 0 % 4)
  rw [acts1_succ]
  unfold cnt3 cnt5 at *
  rw [List.countP_append,List.countP_append]
  exact ⟨by omega,by omega⟩
theorem ls_cnt (l:List Int):cnt3 (l.map lsA)=0∧cnt5 (l.map lsA)=l.length:=by
 induction l with
 | nil=>exact ⟨rfl,rfl⟩
 | cons a l ih=>
  unfold cnt3 cnt5 at *
  rw [List.map_cons,List.countP_cons,List.countP_cons]
  have e:(lsA a).do_=5:=rfl
  rw [e]
  simp only [List.length_cons]
  exact ⟨by rw [ih.1]; rfl,by rw [ih.2]; rfl⟩
theorem bgn1_few (u z:List Int) (J:u.length≤6) (Q:z.length≤5):(bgn1 u z).D.length≤6∧(bgn1 u z).L.length≤5:=by
 have F:(bgnA u z).length≤900:=by unfold bgnA; rw [List.length_append,acts1_len,List.length_map]; omega
 have h:=acts_few (bgnA u z) (bgnA_ok u z (by omega)) F (bgnA u z).length (Nat.le_refl _)
 rw [List.take_length] at h
 have W:=acts1_cnt u u.length
 have Y:=ls_cnt z
 have G:cnt3 (bgnA u z)=cnt3 (acts1 u u.length)+cnt3 (z.map lsA):=List.countP_append
 have I:cnt5 (bgnA u z)=cnt5 (acts1 u u.length)+cnt5 (z.map lsA):=List.countP_append
 exact ⟨by show ((bgnA u z).foldl playS (newS c8 [] [])).D.length≤6; omega,by show ((bgnA u z).foldl playS (newS c8 [] [])).L.length≤5; omega⟩
theorem marks_L:∀ (l:List Int) (q:Ws × List Int),(l.foldl markW q).1.L=q.1.L
 | [],q=>rfl
 | a :: l,q=>by
  rw [List.foldl_cons,marks_L l]
  unfold markW
  split <;> rfl
theorem bgn_gs (u z h:List Int) (cl:Bool) (I:u.length≤6) (h2:z.length≤5) (J:h.length≤5) (g:Gv) (Y:g.ok) (hz:g.st.size≤20):Gs ⟨g,bgnS u z h cl,bgnN u z h⟩ 0:=by
 have F:=(bgn1_facts u h I J).1
 have Q:=mark_facts h (bgn2 u z h) (bgn2_facts u z h I J)
 have ha:=marks_all h (bgn2 u z h,[])
 have G:=park_all z (bgn1 u h)
 have a0:=park_len z (bgn1 u h)
 have a1:(bgn1 u h).sl.length=0:=by rw [bgn1_sl]; rfl
 have hl:(bgnA u h).length≤23:=by unfold bgnA; rw [List.length_append,acts1_len,List.length_map]; omega
 have e2:bgn2 u z h=z.foldl parkW (bgn1 u h):=rfl
 have f1:=F.dl; have f2:=F.sl; have f3:=F.nl; have f4:=F.cl; have f5:=F.el; have f6:=F.lv; have f7:=F.mx; have W:=F.nw
 refine ⟨Q.1,Y,?_,?_,?_,?_,?_,?_,?_,?_,Q.2.2.1,?_,?_,?_,hz⟩
 ·show U64 (bgn3 u z h).1.now
  have e:(bgn3 u z h).1.now=(bgn1 u h).now:=ha.1.trans G.1
  rw [e]; exact W
 ·show (bgn3 u z h).1.sl.length≤900
  have e:(bgn3 u z h).1.sl=(z.foldl parkW (bgn1 u h)).sl:=ha.2.2.2.2.2.2.2
  rw [e]; omega
 ·show (bgn3 u z h).1.C.length≤_
  have e:(bgn3 u z h).1.C=(bgn1 u h).C:=ha.2.2.2.2.1.trans G.2.2.2.2.1
  rw [e]; omega
 ·show (bgn3 u z h).1.ev.length≤_
  have e:(bgn3 u z h).1.ev=(bgn1 u h).ev:=ha.2.2.2.2.2.1.trans G.2.2.2.2.2.1
  rw [e]; omega
 ·show (bgn3 u z h).1.S.length≤_
  have e:(bgn3 u z h).1.S=(bgn1 u h).S:=ha.2.2.1.trans G.2.2.1
  rw [e]; omega
 ·show 0≤(bgn3 u z h).1.live∧(bgn3 u z h).1.live≤1000
  have e:(bgn3 u z h).1.live=(bgn1 u h).live:=ha.2.2.2.2.2.2.1.trans G.2.2.2.2.2.2
  rw [e]; omega
 ·show (bgn3 u z h).1.D.length≤_
  have e:(bgn3 u z h).1.D=(bgn1 u h).D:=ha.2.1.trans G.2.1
  have:=(bgn1_few u h I J).1
  rw [e]; omega
 ·show (bgn3 u z h).1.L.length≤_
  have:=(bgn1_few u h I J).2
  have e:(h.foldl markW (bgn2 u z h,[])).1.L=(bgn1 u h).L:=(marks_L h _).trans (park_rest z (bgn1 u h)).2.1
  show (h.foldl markW (bgn2 u z h,[])).1.L.length≤_
  rw [e]; omega
 ·show (h.foldl markW (bgn2 u z h,[])).2.length≤_
  have:=Q.2.1
  omega
 ·show (h.foldl markW (bgn2 u z h,[])).1.T.length≤_
  have:=Q.2.2.2.2
  omega
 ·show (bgn3 u z h).1.n≤_
  have e:(bgn3 u z h).1.n=(bgn1 u h).n:=ha.2.2.2.1.trans G.2.2.2.1
  rw [e]; omega
theorem res_dg {fn:Func} {p:Tmp} (u:Array Value) (w:World) (b:Nat) (g:Gv) (h:fn.results=#[.cell p 87]) (z:u.getD p undef=.pointer (some ⟨b,0,none⟩)) (I:Vg w b g):(results fn u).run Tryz.prog w=.ok g.val w:=by
 have G:=run_loadVar_mid (P:=Tryz.prog) w b 0 87 _ _ I.at_ under_dg row_dg info_dg
 have F:u[p]?.getD undef=.pointer (some ⟨b,0,none⟩):=by simpa using z
 simp [results,h,F,asAddr,G]
 rfl
theorem gof_any (g:Gv) (w:World):Calls Tryz.prog 22 #[g.val] w fun e w'=>e=.returned g.val∧Below w.heap.size w w':=by
 obtain ⟨Q,F,J,u,S1⟩:=box_g g w
 have F:w.alloc (.cells #[.int .i64 g.th,.int .i64 g.op,.int .u64 g.id,.int .u64 g.word,.string g.st] 83)=Q:=F
 obtain ⟨W2,a2,V2,z,S2⟩:=box_dg zg Q
 have h:=Lh (J.later z)
 have I:=Lh V2.th
 have G:=Lh (u.trans (z.mono u.size))
 have k0:=h.out.cell 0 _ rfl
 have k1:=h.out.cell 1 _ rfl
 have k2:=h.out.cell 2 _ rfl
 have k3:=h.out.cell 3 _ rfl
 have k4:=h.out.cell 4 _ rfl
 rw [S1] at I
 clear J u V2 z
 go_enter Tryz.func22,Tryz.ntmps22
 go_upto_region 1 with (fail)
 clear F a2
 go_wp2_with (first
  | (refine store_dg rfl _ _ rfl (w.heap.size+1) rfl g rfl I.out ?_; intro w9 W Y; have a0:=Lh W; have a1:=Lh Y; clear W Y))
 exact bodyPost_ret (v:=g.val) (res_dg _ _ (w.heap.size+1) _ Tryz.results22 rfl a0.out) rfl ⟨rfl,G.out.trans (a1.out.below G.out.size (fun k hk=>by omega))⟩
theorem gagain_any (th op id word:Int) (w:World):Calls Tryz.prog 24 #[.int .i64 th,.int .i64 op,.int .u64 id,.int .u64 word] w fun e w'=>e=.returned (⟨th,op,id,word,sAgain⟩:Gv).val∧Below w.heap.size w w':=by
 obtain ⟨Y,h,F,u,S1⟩:=box_g zg w
 have h:w.alloc (.cells #[.int .i64 0,.int .i64 0,.int .u64 0,.int .u64 0,.string ⟨#[]⟩] 83)=Y:=h
 have J:=Lh F.th
 have z:=Lh u
 clear F u
 go_enter Tryz.func24,Tryz.ntmps24
 go_upto_region 1 with (fail)
 clear h
 go_wp2_with (first
  | (refine store_g rfl _ _ rfl w.heap.size rfl ⟨th,op,id,word,sAgain⟩ rfl J.out ?_; intro w9 G I; have Q:=Lh G; have W:=Lh I; clear G I))
 exact bodyPost_ret (v:=Gv.val ⟨th,op,id,word,sAgain⟩) (res_g _ _ w.heap.size _ Tryz.results24 rfl Q.out) rfl ⟨rfl,z.out.trans (W.out.below z.out.size (fun k hk=>by omega))⟩
theorem gclose_any (th op id word:Int) (w:World):Calls Tryz.prog 25 #[.int .i64 th,.int .i64 op,.int .u64 id,.int .u64 word] w fun e w'=>e=.returned (⟨th,op,id,word,sClose⟩:Gv).val∧Below w.heap.size w w':=by
 obtain ⟨Y,h,F,u,S1⟩:=box_g zg w
 have h:w.alloc (.cells #[.int .i64 0,.int .i64 0,.int .u64 0,.int .u64 0,.string ⟨#[]⟩] 83)=Y:=h
 have J:=Lh F.th
 have z:=Lh u
 clear F u
 go_enter Tryz.func25,Tryz.ntmps25
 go_upto_region 1 with (fail)
 clear h
 go_wp2_with (first
  | (refine store_g rfl _ _ rfl w.heap.size rfl ⟨th,op,id,word,sClose⟩ rfl J.out ?_; intro w9 G I; have Q:=Lh G; have W:=Lh I; clear G I))
 exact bodyPost_ret (v:=Gv.val ⟨th,op,id,word,sClose⟩) (res_g _ _ w.heap.size _ Tryz.results25 rfl Q.out) rfl ⟨rfl,z.out.trans (W.out.below z.out.size (fun k hk=>by omega))⟩
theorem give_nil (g:Gv) (w:World) (a5:g.st.size≤maxLen):Calls Tryz.prog 26 #[g.val,.pointer none] w fun e w'=>e=.returned (Gv.val { g with st:=sDone })∧Below w.heap.size w w':=by
 have HZ:=Lh a5
 obtain ⟨F,af,V1,T1,Q,S1⟩:=boxes_g g w
 have a2:=Lh V1
 have a8:=Lh T1
 have W:=Lh Q
 clear V1 T1 Q S1
 go_enter Tryz.func26,Tryz.ntmps26
 go_upto_region 1 with (fail)
 clear af
 clear a5
 go_wp2_with fail
 have h:Hid (Vg F.drew w.heap.size g):=Lh (a2.out.blk rfl)
 refine reg_start 5 (fun w'=>Vg w' w.heap.size g) (by kernel_rfl) (by kernel_rfl) ?_
 intro a3
 have z:=Lh a3
 clear a3
 refine rl 1 z.out h.out rfl ?_
 apply Exists.intro
 refine ⟨fun w' hw=>by (go_simp; exact rfl),?_⟩
 refine rl 2 z.out h.out rfl ?_
 apply Exists.intro
 refine ⟨fun w' hw=>by (have kz:=hw.cell 4 _ rfl; go_simp; exact rfl),?_⟩
 refine reg_only 0 rfl (by kernel_rfl) rfl ?_
 unfold Oper.wp
 go_simp
 refine (acts_any _).mono ?_
 rintro e u ⟨m,rfl,⟨n,a4⟩,b2⟩
 have J:Below F.heap.size F u:=(Below.refl _ _).drew.trans b2
 have I:Vg u w.heap.size g:=a2.out.later J
 refine ⟨I,?_⟩
 clear h
 have h:=Lh I
 obtain ⟨fv,ps,ah,ag⟩:=a4.lookup lawS Tryz.underlying174 (zero_fn u) (show fnR .nilFunc=some (.lit (.int .u64 0),[]) from rfl) (WideMaps.keyOf_string_mk Tryz.underlying9 HZ.out)
 have Y:=Lh J
 clear I a4 b2 J ag
 refine reg_only 3 rfl (by kernel_rfl) rfl ?_
 unfold Oper.wp
 go_simp
 refine ⟨h.out,?_⟩
 clear ah
 refine rl 4 z.out h.out rfl ?_
 apply Exists.intro
 refine ⟨fun w' hw=>by (go_simp; exact rfl),?_⟩
 refine reg_done (by kernel_rfl) ?_
 have ac:=Lh h.out
 have a9:=Lh (th5_later a8.out Y.out)
 have a1:Hid (Below w.heap.size w u):=Lh (W.out.trans (Y.out.mono W.out.size))
 clear h
 go_wp2_with (first
  | (refine load_g rfl _ rfl w.heap.size rfl g ac.out ?_))
 refine (to_any g sDone _).mono ?_
 rintro e w8 ⟨rfl,G⟩
 have aa:=Lh (th5_later a9.out G)
 have a0:Hid (Below w.heap.size w w8):=Lh (a1.out.trans (G.mono a1.out.size))
 clear G
 go_wp2_with (first
  | (refine store_g rfl _ _ rfl (w.heap.size+1) rfl { g with st:=sDone } rfl aa.out ?_; intro w9 a6 a7; have ad:=Lh a6; have ae:=Lh a7; clear a6 a7))
 exact bodyPost_ret (v:=Gv.val { g with st:=sDone }) (res_g _ _ (w.heap.size+1) _ Tryz.results26 rfl ad.out) rfl ⟨rfl,a0.out.trans (ae.out.below a0.out.size (fun k hk=>by omega))⟩
theorem g_same (w:World) (g:Gv):(Op.equalIn 10000 87 g.val g.val).run Tryz.prog w=.ok true w:=by
 obtain ⟨a,b,c,d,e⟩:=g
 rw [show (10000:Nat)=9999+1 from rfl,run_equalIn_agg w 9999 _ _ _ (by kernel_rfl) (by kernel_rfl)]
 rw [show (9999:Nat)=9998+1 from rfl]
 simp only [Program.fieldsOf,Tryz.underlying87]
 go_simp
theorem g_ne (w:World) (g:Gv):(binOp .neq 87 g.val g.val).run Tryz.prog w=.ok (.bool false) w:=by
 rw [run_neq_struct,g_same]
 rfl
theorem g_guard:Tryz.prog.eqGuardType Tryz.prog.depth 87=false:=by kernel_rfl
def qG (B:Nat) (g:Gv) (i:Nat) (v:Value) (w:World):Prop:=match i with
 | 8=>v=(⟨g.th,g.op,g.id,g.word,sOffer⟩:Gv).val
 | 17=>v=(⟨g.th,g.op,g.id,g.word,sAgain⟩:Gv).val
 | 26=>v=(⟨g.th,g.op,g.id,g.word,sClose⟩:Gv).val
 | 27=>∃ p,v=.pointer (some ⟨p,0,none⟩)∧B≤p∧p < w.heap.size∧w.there p 0 5
 | 28=>∃ p,v=.pointer (some ⟨p,0,none⟩)∧B≤p∧p < w.heap.size∧w.there p 0 5
 | 29=>∃ p,v=.pointer (some ⟨p,0,none⟩)∧B≤p∧p < w.heap.size∧w.there p 0 5
 | _=>True
def qD (i j:Nat) (v u:Value):Prop:=27≤i→i≤29→27≤j→j≤29→v≠u
theorem qG_mono (B:Nat) (g:Gv) (i:Nat) (v:Value) (w w':World) (h:qG B g i v w) (hb:Below w.heap.size w w'):qG B g i v w':=by
 unfold qG at *
 split at h
 all_goals first
  | exact h
  | (obtain ⟨p,e,u,z,F⟩:=h; exact ⟨p,e,u,Nat.lt_of_lt_of_le z hb.size,th5_later F hb⟩)
theorem zg_there (w:World):(w.alloc (.cells #[.int .i64 0,.int .i64 0,.int .u64 0,.int .u64 0,.string ⟨#[]⟩] 83)).there w.heap.size 0 5:=by
 obtain ⟨W,e,h,_⟩:=box_g zg w
 exact e ▸ h.th
theorem zdg_there (w:World):(w.alloc (.cells #[.int .i64 0,.int .i64 0,.int .u64 0,.int .u64 0,.string ⟨#[]⟩] 87)).there w.heap.size 0 5:=by
 obtain ⟨W,e,h,_⟩:=box_dg zg w
 exact e ▸ h.th
end Go.Proofs.YtaeemilldmhbnaaGreatDoor.Wo
