/- A part of the claim: the texts KeepsMath GsMath GetMath KeepsWalk. -/
import Derived.Test.YtoiklelghfckgaaGreatDoorZGBegin
import Derived.Test.YtoiklelghfckgaaGreatDoorZGGive
import Derived.Test.YtoiklelghfckgaaGreatDoorZGetRun
import Derived.Test.YtoiklelghfckgaaGreatDoorZAwake17
set_option linter.unusedVariables false
namespace Go.Proofs.YtoiklelghfckgaaGreatDoor.Wo
open Go Go.ChangeShapes Go.WideShapes Go.ChangeAt Go.RowKit Go.Deep Go.Maps Rw Hi Mt Ba
open Cn (Cf cfE)
theorem Gd.lease {s:Ws} {n:Nat} (h:Gd s n) (m:Int):Gd (playS s (lsA m)) n:=by
 unfold playS lsA
 simp only
 rw [if_neg (by decide),if_neg (by decide),if_neg (by decide),if_neg (by decide),if_neg (by decide),if_pos (by decide)]
 exact ⟨h.D,h.S,h.live,h.n_,h.C,h.now,h.O,h.mx,h.el⟩
theorem Gd.leases {n:Nat} : ∀ (l:List Int) {s:Ws},Gd s n→Gd ((l.map lsA).foldl playS s) n
 | [],_,h=>h
 | a :: l,_,h=>Gd.leases l (h.lease a)
theorem Gd.parks {n:Nat} : ∀ (l:List Int) {s:Ws},Gd s n→Gd (l.foldl parkW s) n
 | [],_,h=>h
 | a :: l,_,h=>Gd.parks l ⟨h.D,h.S,h.live,h.n_,h.C,h.now,h.O,h.mx,h.el⟩
theorem Gd.mark {n:Nat} {q:Ws × List Int} (h:Gd q.1 n) (a:Int):Gd (markW q a).1 n:=by
 unfold markW
 split
 ·exact h
 ·exact ⟨h.D,h.S,h.live,h.n_,h.C,h.now,h.O,h.mx,h.el⟩
theorem Gd.marks {n:Nat} : ∀ (l:List Int) {q:Ws × List Int},Gd q.1 n→Gd (l.foldl markW q).1 n
 | [],_,h=>h
 | a :: l,_,h=>Gd.marks l (h.mark a)
theorem marks_sl:∀ (l:List Int) (q:Ws × List Int),(l.foldl markW q).1.sl=q.1.sl
 | [],q=>rfl
 | a :: l,q=>by
  rw [List.foldl_cons,marks_sl l]
  unfold markW
  split <;> rfl
theorem bgn_sl (z F u:List Int) (cl:Bool):(bgnS z F u cl).sl.length≤F.length:=by
 show (bgn3 z F u).1.sl.length≤_
 unfold bgn3
 rw [marks_sl]
 show (bgn2 z F u).sl.length≤_
 unfold bgn2
 have h:=park_len F (bgn1 z u)
 have e:(bgn1 z u).sl.length=0:=by rw [bgn1_sl]; rfl
 omega
theorem bgn_mk (u z h:List Int) (cl:Bool) (F:u.length≤6) (G:h.length≤5):(bgnS u z h cl).M=Le.mk (bgnN u z h):=(mark_facts h (bgn2 u z h) (bgn2_facts u z h F G)).1
def fS (ss:List Int) (j:Nat):Int:=ss.getD j 0 % 4
structure Gs (s:Ws) (f:Nat→Int) (n:Nat):Prop where
 D:s.D=(List.range n).map fun j:Nat=>((j:Int)+1,(⟨Wd.wOf (f j) 0,0,0,0⟩:Ex))
 S:s.S=(List.range n).map fun j:Nat=>(j:Int)+1
 live:s.live=n
 n_:s.n=n
 C:s.C=[]
 now:s.now=0
 O:s.O=[]
 mx:s.conf.max=8
 el:s.ev=[]
 P:s.P=[]
section
variable {s:Ws} {n:Nat} {f:Nat→Int}
theorem Gs.keys (h:Gs s f n):s.D.map Prod.fst=(List.range n).map fun j:Nat=>(j:Int)+1:=by
 rw [h.D,List.map_map]; rfl
theorem Gs.ris (h:Gs s f n):Ris s.D:=by
 rw [h.D]
 show List.Pairwise _ _
 rw [List.pairwise_map]
 exact List.pairwise_lt_range.imp (fun u=>by show (_:Int) < _; simp only; omega)
theorem Gs.no (h:Gs s f n):((n:Int)+1) ∉ s.D.map Prod.fst:=by
 rw [h.keys]
 intro z
 obtain ⟨j,u,e⟩:=List.mem_map.1 z
 have:=List.mem_range.1 u
 omega
theorem Gs.more (h:Gs s f n) (hc:s.closed=false) (hn:n < 8) (hf:0≤f n∧f n < 4):Gs (oneMore s (f n) n) f (n+1):=by
 have F:playS s ⟨1,0,0,0,0⟩ = { s with live:=(n:Int)+1 }:=by
  unfold playS
  rw [if_neg (by decide),if_pos (by decide)]
  unfold grwV
  rw [h.mx,h.live,if_pos (by omega)]
 have z:entD s.D ((n:Int)+1) (f n) s.now=(List.range (n+1)).map fun j:Nat=>((j:Int)+1,(⟨Wd.wOf (f j) 0,0,0,0⟩:Ex)):=by
  have e:eE s.D ((n:Int)+1) (f n)=0:=by
   unfold eE
   rw [if_neg (by omega),fnd_none h.no]
   rfl
  unfold entD
  rw [if_pos e,h.now,List.range_succ,List.map_append,← h.D]
  refine ris_perm (h.ris.ins _) ?_ (((ins_perm h.ris h.no _).symm).trans ?_)
  ·rw [h.D,List.map_singleton,← List.map_singleton (f:=fun j:Nat=>((j:Int)+1,(⟨Wd.wOf (f j) 0,0,0,0⟩:Ex))),← List.map_append,← List.range_succ]
   show List.Pairwise _ _
   rw [List.pairwise_map]
   exact List.pairwise_lt_range.imp (fun a0=>by show (_:Int) < _; simp only; omega)
  ·exact (List.perm_append_singleton _ _).symm
 have G:playS { s with live:=(n:Int)+1 } ⟨3,0,0,0,f n⟩ = { s with live:=(n:Int)+1,n:=n+1,D:=entD s.D ((n:Int)+1) (f n) s.now }:=by
  unfold playS
  have Q:(⟨3,0,0,0,f n⟩:Ay).do_ % 8=3:=show (3:Int) % 8=3 by decide
  rw [Q,if_neg (by decide),if_neg (by decide),if_neg (by decide),if_pos rfl]
  have u:Fc.nx s.O=(true,[]):=by rw [h.O]; rfl
  have W:opnI s.O s.n=(n:Int)+1:=by unfold opnI; rw [u,h.n_]; rfl
  have en:opnN s.O s.n=n+1:=by unfold opnN; rw [u,h.n_]; rfl
  simp only [W,en,u]
  rw [← h.O]
 have I:pubS (entD s.D ((n:Int)+1) (f n) s.now) s.S ((n:Int)+1)=(List.range (n+1)).map fun j:Nat=>(j:Int)+1:=by
  unfold pubS
  rw [if_pos]
  ·unfold Sn.sWith
   rw [if_neg]
   ·rw [h.S,List.range_succ,List.map_append]; rfl
   ·rw [h.S]
    intro hm
    obtain ⟨j,Y,e⟩:=List.mem_map.1 hm
    have:=List.mem_range.1 Y
    omega
  ·rw [z,fnd_is]
   refine decide_eq_true ?_
   rw [List.map_map]
   exact List.mem_map.2 ⟨n,List.mem_range.2 (by omega),rfl⟩
 unfold oneMore
 rw [F,G]
 unfold playS
 have J:(⟨4,(n:Int)+1,0,0,0⟩:Ay).do_ % 8=4:=show (4:Int) % 8=4 by decide
 rw [J,if_neg (by decide),if_neg (by decide),if_neg (by decide),if_neg (by decide),if_pos rfl,if_neg (by show ¬ s.closed=true; rw [hc]; decide)]
 exact ⟨z,I,by show (n:Int)+1=((n+1:Nat):Int); omega,rfl,h.C,h.now,h.O,h.mx,h.el,h.P⟩
theorem Gs.lease (h:Gs s f n) (m:Int):Gs (playS s (lsA m)) f n:=by
 unfold playS lsA
 simp only
 rw [if_neg (by decide),if_neg (by decide),if_neg (by decide),if_neg (by decide),if_neg (by decide),if_pos (by decide)]
 exact ⟨h.D,h.S,h.live,h.n_,h.C,h.now,h.O,h.mx,h.el,h.P⟩
theorem Gs.leases:∀ (l:List Int) {s:Ws},Gs s f n→Gs ((l.map lsA).foldl playS s) f n
 | [],_,h=>h
 | a :: l,_,h=>Gs.leases l (h.lease a)
theorem Gs.parks:∀ (l:List Int) {s:Ws},Gs s f n→Gs (l.foldl parkW s) f n
 | [],_,h=>h
 | a :: l,_,h=>Gs.parks l ⟨h.D,h.S,h.live,h.n_,h.C,h.now,h.O,h.mx,h.el,h.P⟩
theorem Gs.mark {q:Ws × List Int} (h:Gs q.1 f n) (a:Int):Gs (markW q a).1 f n:=by
 unfold markW
 split
 ·exact h
 ·exact ⟨h.D,h.S,h.live,h.n_,h.C,h.now,h.O,h.mx,h.el,h.P⟩
theorem Gs.marks:∀ (l:List Int) {q:Ws × List Int},Gs q.1 f n→Gs (l.foldl markW q).1 f n
 | [],_,h=>h
 | a :: l,_,h=>Gs.marks l (h.mark a)
end
theorem fS_lt (h:List Int) (j:Nat):0≤fS h j∧fS h j < 4:=by unfold fS; omega
theorem gs_acts (h:List Int) (I:h.length≤6):∀ k,k≤h.length→Gs ((acts1 h k).foldl playS (newS c8 [] [])) (fS h) k∧((acts1 h k).foldl playS (newS c8 [] [])).closed=false:=by
 intro k
 induction k with
 | zero=>intro _; exact ⟨⟨rfl,rfl,rfl,rfl,rfl,rfl,rfl,rfl,rfl,rfl⟩,rfl⟩
 | succ k ih=>
  intro hk
  obtain ⟨z,u⟩:=ih (by omega)
  rw [acts1_succ,List.foldl_append]
  obtain ⟨s,F⟩:∃ s,(acts1 h k).foldl playS (newS c8 [] [])=s:=⟨_,rfl⟩
  rw [F] at z u
  rw [F]
  have G:(tri k (h.getD k 0 % 4)).foldl playS s=oneMore s (fS h k) k:=rfl
  rw [G]
  refine ⟨z.more u (by omega) (fS_lt h k),?_⟩
  unfold oneMore
  rw [playS_cl,playS_cl,playS_cl]
  exact u
theorem gs_bgn (h F z:List Int) (J:h.length≤6) (cl:Bool):Gs (bgnS h F z cl) (fS h) h.length:=by
 have G:Gs (bgn1 h z) (fS h) h.length:=by
  unfold bgn1 bgnA
  rw [List.foldl_append]
  exact Gs.leases z (gs_acts h J h.length (Nat.le_refl _)).1
 have I:Gs (bgn2 h F z) (fS h) h.length:=Gs.parks F G
 have u:Gs (bgn3 h F z).1 (fS h) h.length:=Gs.marks z I
 exact ⟨u.D,u.S,u.live,u.n_,u.C,u.now,u.O,u.mx,u.el,u.P⟩
def DX (g:Nat→Ex) (n p:Nat) (e:Ex):List (Int × Ex):=(List.range n).map fun j:Nat=>((j:Int)+1,if j=p then e else g j)
theorem DX_fnd (g:Nat→Ex) {n p:Nat} (h:p < n) (e:Ex):fnd (DX g n p e) ((p:Int)+1)=some e:=by
 refine fnd_mem ?_ ?_
 ·unfold Nd DX
  rw [List.map_map]
  show List.Pairwise _ _
  rw [List.pairwise_map]
  exact List.pairwise_lt_range.imp (fun u=>by simp only [Function.comp]; omega)
 ·exact List.mem_map.2 ⟨p,List.mem_range.2 h,by simp⟩
theorem DX_self (g:Nat→Ex) (n p:Nat):DX g n p (g p)=(List.range n).map fun j:Nat=>((j:Int)+1,g j):=by
 unfold DX
 refine List.map_congr_left fun j u=>?_
 split
 ·next h=>subst h; rfl
 ·rfl
theorem fnd_range (g:Nat→Ex) (n:Nat) (id:Int):fnd ((List.range n).map fun j:Nat=>((j:Int)+1,g j)) id=if 1≤id∧id≤n then some (g (id - 1).toNat) else none:=by
 split
 ·next h=>
  have u:=DX_fnd g (n:=n) (p:=(id - 1).toNat) (by omega) (g (id - 1).toNat)
  rw [DX_self,show (((id - 1).toNat:Nat):Int)+1=id by omega] at u
  exact u
 ·next h=>
  refine fnd_none ?_
  rw [List.map_map]
  intro F
  obtain ⟨j,z,e⟩:=List.mem_map.1 F
  have:=List.mem_range.1 z
  simp only [Function.comp] at e
  omega
def Gt.bare (q:Gt):Gt:={ q with A:=none,n:=0,c:=0 }
def Mg.bare (m:Mg):Mg:={ m with q:=m.q.bare }
theorem ite_bare (c:Prop) [Decidable c] (a b:Mg):(if c then a else b).bare=if c then a.bare else b.bare:=by split <;> rfl
theorem ite_bareQ (c:Prop) [Decidable c] (a b:Gt):(if c then a else b).bare=if c then a.bare else b.bare:=by split <;> rfl
theorem look_bare (q:Gt) (p:Int):(lookM q p).bare=lookM q.bare p:=by unfold lookM; rw [ite_bareQ,ite_bareQ]; rfl
theorem next_bare (q:Gt):(nextM q).bare=nextM q.bare:=by unfold nextM; rw [ite_bareQ,look_bare]; rfl
theorem up_bare (m:Mg) (e:Int):(upM m e).bare=upM m.bare e:=by unfold upM; rw [ite_bare]; rfl
theorem own_bare (m:Mg):(ownM m).bare=ownM m.bare:=by unfold ownM; rw [ite_bare]; rfl
theorem start_bare (m:Mg):(startM m).bare=startM m.bare:=by unfold startM; rw [ite_bare]; rfl
theorem near_bare (m:Mg):(nearM m).bare=nearM m.bare:=by unfold nearM; rw [ite_bare]; rfl
theorem snap_bare (m:Mg) (A:Option Addr) (n c:Nat):(snapM m A n c).bare=snapM m.bare none 0 0:=by
 have e:=look_bare { m.q with A:=A,n:=n,c:=c,S:=m.s.S,near:=false } 0
 unfold snapM Mg.bare
 simp only
 rw [e]
 rfl
theorem load_bare (m:Mg):(loadM m).bare=loadM m.bare:=by
 have e:=next_bare m.q
 unfold loadM; rw [ite_bare]
 unfold Mg.bare
 simp only
 rw [e]; rfl
theorem swap_bare (m:Mg):(swapM m).bare=swapM m.bare:=by
 have e:=next_bare m.q
 unfold swapM; simp only; rw [ite_bare,own_bare]
 unfold Mg.bare
 simp only
 rw [e]; rfl
theorem grow_bare (m:Mg):(growM m).bare=growM m.bare:=by unfold growM; simp only; rw [ite_bare,ite_bare]; rfl
theorem open_bare (m:Mg):(openM m).bare=openM m.bare:=by unfold openM; simp only; rw [ite_bare]; rfl
theorem shrink_bare (m:Mg):(shrinkM m).bare=shrinkM m.bare:=by unfold shrinkM; rw [up_bare]; rfl
theorem pub_bare (m:Mg):(publishM m).bare=publishM m.bare:=by unfold publishM; rw [ite_bare,own_bare]; rfl
theorem drop_bare (m:Mg):(dropM m).bare=dropM m.bare:=by unfold dropM; rw [ite_bare]; rfl
theorem unlive_bare (m:Mg):(unliveM m).bare=unliveM m.bare:=by unfold unliveM; rw [up_bare]; rfl
theorem wait_bare (m:Mg):(waitM m).bare=waitM m.bare:=by unfold waitM; rw [ite_bare,ite_bare,ite_bare,ite_bare,up_bare,up_bare]; rfl
theorem leave_bare (m:Mg):(leaveM m).bare=leaveM m.bare:=by unfold leaveM; simp only; rw [ite_bare,ite_bare,ite_bare]; rfl
theorem get_bare (m:Mg) (A:Option Addr) (n c:Nat):(stepM m A n c).bare=stepM m.bare none 0 0:=by
 unfold stepM
 rw [ite_bare,ite_bare,ite_bare,ite_bare,ite_bare,ite_bare,ite_bare,ite_bare,ite_bare,ite_bare,ite_bare,ite_bare,ite_bare,ite_bare,ite_bare,
  start_bare,near_bare,snap_bare,load_bare,swap_bare,grow_bare,open_bare,shrink_bare,pub_bare,drop_bare,unlive_bare,wait_bare,leave_bare]
 rfl
def itM (dl:Int) (s:Ws):Nat→Mg
 | 0=>⟨⟨0,dl,gStart,0,0,false,none,0,0,[],0,false,0,0,zg⟩,s,[]⟩
 | k+1=>stepM (itM dl s k) none 0 0
theorem itM_stay {dl:Int} {s:Ws} {k:Nat} (h:stepM (itM dl s k) none 0 0=itM dl s k):∀ n,itM dl s (k+n)=itM dl s k
 | 0=>rfl
 | n+1=>by
  show stepM (itM dl s (k+n)) none 0 0=itM dl s k
  rw [itM_stay h n]
  exact h
structure Gz (s:Ws) (f:Nat→Int) (n:Nat):Prop where
 D:s.D=(List.range n).map fun j:Nat=>((j:Int)+1,(⟨Wd.wOf (f j) 0,0,0,0⟩:Ex))
 S:s.S=(List.range n).map fun j:Nat=>(j:Int)+1
 live:s.live=n
 n_:s.n=n
 C:s.C=[]
 O:s.O=[]
 mx:s.conf.max=max 1 (n:Int)
 L:s.L=[]
 loc:s.loc 0=[]
 now:s.now=5
structure Pg (s:Ws) (dl:Int) (n:Nat) (b:Bool) (p:Nat) (m:Mg):Prop where
 S:m.q.S=(List.range n).map fun j:Nat=>(j:Int)+1
 th:m.q.th=0
 dl_:m.q.dl=dl
 near:m.q.near=false
 pk:m.q.parked=b
 got:m.q.got=0
 wish:m.q.wish=0
 at_:(p < n∧m.q.st=gLoad∧m.q.id=(p:Int)+1)∨(p=n∧m.q.st=if b=true then gWait else gGrow)
 pl:m.q.place=p
 s_:m.s=s
 N:m.N=[]
structure Hgot (m:Mg):Prop where
 st:m.q.st=gDone
 id:1≤m.q.got∧m.q.got≤m.s.n
 C:m.s.C=[]
 D:(fnd m.s.D m.q.got).isSome=true
 word:bW m.s.D m.q.got % 4=1
 L:fnd m.s.L m.q.got=some ⟨0,5,false⟩
section
variable {s:Ws} {f:Nat→Int} {dl:Int} {n p:Nat} {b:Bool} {m:Mg}
theorem look_pg (J:p≤n) (q:Gt) (u:q.S=(List.range n).map fun j:Nat=>(j:Int)+1) (G:q.th=0) (z:q.dl=dl) (hn:q.near=false) (hk:q.parked=b) (F:q.got=0) (hw:q.wish=0):Pg s dl n b p ⟨lookM q p,s,[]⟩:=by
 have I:q.S.length=n:=by rw [u]; simp
 unfold lookM
 by_cases h:p < n
 ·rw [if_pos (show 0≤(p:Int)∧(p:Int) < q.S.length by omega)]
  refine ⟨u,G,z,hn,hk,F,hw,.inl ⟨h,rfl,?_⟩,rfl,rfl,rfl⟩
  show (q.S[(p:Int).toNat]?).getD 0=(p:Int)+1
  rw [show ((p:Int)).toNat=p by omega,u,List.getElem?_map,List.getElem?_range h]
  rfl
 ·rw [if_neg (show ¬ (0≤(p:Int)∧(p:Int) < q.S.length) by omega)]
  cases b with
  | true=>
   rw [if_pos hk]
   exact ⟨u,G,z,hn,hk,F,hw,.inr ⟨by omega,rfl⟩,rfl,rfl,rfl⟩
  | false=>
   rw [if_neg (by rw [hk]; decide)]
   exact ⟨u,G,z,hn,hk,F,hw,.inr ⟨by omega,rfl⟩,rfl,rfl,rfl⟩
theorem Gz.at_ (h:Gz s f n) (u:p < n):fnd s.D ((p:Int)+1)=some ⟨Wd.wOf (f p) 0,0,0,0⟩:=by
 rw [h.D,fnd_range (fun j=>⟨Wd.wOf (f j) 0,0,0,0⟩),if_pos (by omega),show ((p:Int)+1 - 1).toNat=p by omega]
theorem Pg.pass (h:Pg s dl n b p m) (hz:Gz s f n) (hp:p < n) (hn:n≤6) (hf:f p≠0) (hr:0≤f p∧f p < 4):Pg s dl n b (p+1) (stepM m none 0 0):=by
 obtain ⟨q,u,N⟩:=m
 obtain ⟨I,ht,Q,z,hk,W,hw,J,Y,hs,G⟩:=h
 simp only at I ht Q z hk W hw J Y hs G
 subst hs G
 obtain ⟨-,a0,hid⟩:p < n∧q.st=gLoad∧q.id=(p:Int)+1:=by
  rcases J with F | ⟨F,-⟩
  ·exact F
  ·omega
 have hD:=hz.at_ hp
 have hb:¬ ((fnd u.D q.id).isSome=true∧bW u.D q.id % 4=0):=by
  rintro ⟨-,e⟩
  unfold bW at e
  rw [hid,hD] at e
  have e:Wd.wOf (f p) 0 % 4=0:=e
  unfold Wd.wOf at e
  omega
 have a1:wrap64 (q.place+1)=((p+1:Nat):Int):=by rw [Y]; unfold wrap64; omega
 have e:nextM q=lookM q ((p+1:Nat):Int):=by unfold nextM; rw [if_neg (by rw [z]; decide),a1]
 rw [stepM_Load a0]
 unfold loadM
 rw [if_neg hb]
 show Pg u dl n b (p+1) ⟨nextM q,u,[]⟩
 rw [e]
 exact look_pg (by omega) q I ht Q z hk W hw
theorem has_got (m:Mg) (id:Int) (I:m.q.th=0) (F:m.s.L=[]) (hn:m.s.now=5) (h:1≤id∧id≤m.s.n) (u:m.s.C=[]) (z:(fnd m.s.D id).isSome=true) (G:bW m.s.D id % 4=1):Hgot (hasM m id):=by
 refine ⟨rfl,h,u,z,G,?_⟩
 show fnd (Le.bL m.s.L id m.q.th m.s.now) id=_
 rw [F,I,hn]
 have e:Le.bE [] id 0=0:=by
  unfold Le.bE
  rw [if_neg (by decide),if_neg (by show ¬ (fnd ([] : List (Int × Le.Ls)) id).isSome=true; exact (by decide:¬ (none:Option Le.Ls).isSome=true))]
 unfold Le.bL
 rw [if_pos e]
 unfold fnd
 rw [List.find?_cons_of_pos (by simp)]
 rfl
theorem Pg.hit (h:Pg s dl n false p m) (G:Gz s f n) (hp:p < n) (hf:f p=0):Hgot (stepM (stepM m none 0 0) none 0 0):=by
 obtain ⟨⟨th,F,st,id,wd,nr,A,l,c,S,pl,pk,ws,gt,g⟩,u,N⟩:=m
 obtain ⟨hS,ht,hd,Y,hk,W,hw,Q,a1,hs,J⟩:=h
 simp only at hS ht hd Y hk W hw Q a1 hs J
 obtain ⟨-,a2,hid⟩:p < n∧st=gLoad∧id=(p:Int)+1:=by
  rcases Q with I | ⟨I,-⟩
  ·exact I
  ·omega
 subst hs J a2 hid ht Y hk W hw
 have z:=G.at_ hp
 rw [hf] at z
 have z:fnd u.D ((p:Int)+1)=some ⟨0,0,0,0⟩:=z
 have hw:bW u.D ((p:Int)+1)=0:=by unfold bW; rw [z]; rfl
 have s1:stepM ⟨⟨0,F,gLoad,(p:Int)+1,wd,false,A,l,c,S,pl,false,0,0,g⟩,u,[]⟩ none 0 0=⟨⟨0,F,gSwap,(p:Int)+1,0,false,A,l,c,S,pl,false,0,0,g⟩,u,[]⟩:=by
  rw [stepM_Load rfl]
  unfold loadM
  rw [if_pos (show (fnd u.D ((p:Int)+1)).isSome=true∧bW u.D ((p:Int)+1) % 4=0 from ⟨by rw [z]; rfl,by rw [hw]; rfl⟩)]
  show (⟨⟨0,F,gSwap,(p:Int)+1,bW u.D ((p:Int)+1),false,A,l,c,S,pl,false,0,0,g⟩,u,[]⟩:Mg)=_
  rw [hw]
 have hk:bK u.D ((p:Int)+1) 0 1=true:=by unfold bK; rw [z]; rfl
 have s2:stepM ⟨⟨0,F,gSwap,(p:Int)+1,0,false,A,l,c,S,pl,false,0,0,g⟩,u,[]⟩ none 0 0=hasM ⟨⟨0,F,gSwap,(p:Int)+1,bV u.D ((p:Int)+1) 0 1,false,A,l,c,S,pl,false,0,0,g⟩,{ u with D:=up u.D ((p:Int)+1) (exS 0 1 u.now) },[]⟩ ((p:Int)+1):=by
  rw [stepM_Swap rfl]
  unfold swapM
  simp only
  rw [if_pos hk]
  unfold ownM
  rw [if_neg (by show ¬ false=true; decide)]
 rw [s1,s2]
 have a0:=fnd_up_same (f:=exS 0 1 u.now) z
 refine has_got _ _ rfl G.L G.now ⟨by omega,?_⟩ G.C ?_ ?_
 ·show (p:Int)+1≤u.n
  rw [G.n_]; omega
 ·show (fnd (up u.D ((p:Int)+1) (exS 0 1 u.now)) ((p:Int)+1)).isSome=true
  rw [a0]; rfl
 ·show bW (up u.D ((p:Int)+1) (exS 0 1 u.now)) ((p:Int)+1) % 4=1
  unfold bW
  rw [a0]
  rfl
theorem pg_zero (h:Gz s f n) (hc:s.closed=false):Pg s dl n false 0 (itM dl s 3):=by
 have u:itM dl s 1=⟨⟨0,dl,gNear,0,0,false,none,0,0,[],0,false,0,0,zg⟩,s,[]⟩:=by
  show stepM (itM dl s 0) none 0 0=_
  rw [stepM_Start rfl]
  unfold startM
  rw [if_neg (by show ¬ s.closed=true; rw [hc]; decide)]
  rfl
 have e:Lc.takeR s.loc 0=(s.loc,0,false):=by
  unfold Lc.takeR
  rw [if_pos (by decide)]
  rw [show s.loc (0:Int).toNat=[] from h.loc]
  rfl
 have z:itM dl s 2=⟨⟨0,dl,gSnap,0,0,false,none,0,0,[],0,false,0,0,zg⟩,s,[]⟩:=by
  show stepM (itM dl s 1) none 0 0=_
  rw [u,stepM_Near rfl]
  unfold nearM
  show (if (Lc.takeR s.loc 0).2.2=true then _ else (⟨⟨0,dl,gSnap,0,0,false,none,0,0,[],0,false,0,0,zg⟩,{ s with loc:=(Lc.takeR s.loc 0).1 },[]⟩:Mg))=_
  rw [e,if_neg (by show ¬ false=true; decide)]
 have F:itM dl s 3=⟨lookM ⟨0,dl,gSnap,0,0,false,none,0,0,s.S,0,false,0,0,zg⟩ ((0:Nat):Int),s,[]⟩:=by
  show stepM (itM dl s 2) none 0 0=_
  rw [z,stepM_Snap rfl]
  rfl
 rw [F]
 exact look_pg (by omega) _ h.S rfl rfl rfl rfl rfl rfl
theorem scan (u:Gz s f n) (hc:s.closed=false) (hn:n≤6) (F:∀ j,0≤f j∧f j < 4):∀ p,p≤n→(∃ t,t≤5+p∧Hgot (itM dl s t))∨(Pg s dl n false p (itM dl s (3+p)) ∧ ∀ j,j < p→f j≠0)
 | 0,_=>.inr ⟨pg_zero u hc,fun j z=>absurd z (by omega)⟩
 | p+1,hp=>by
  rcases scan u hc hn F p (by omega) with ⟨t,I,h⟩ | ⟨h,z⟩
  ·exact .inl ⟨t,by omega,h⟩
  ·by_cases h0:f p=0
   ·exact .inl ⟨3+p+2,by omega,h.hit u (by omega) h0⟩
   ·refine .inr ⟨h.pass u (by omega) hn h0 (F p),fun j G=>?_⟩
    by_cases e:j=p
    ·subst e; exact h0
    ·exact z j (by omega)
theorem scan2 {u:Ws} {t:Nat} (G:Gz u f n) (hn:n≤6) (F:∀ j,0≤f j∧f j < 4) (z:∀ j,j < n→f j≠0) (h:Pg u dl n true 0 (itM dl s t)):∀ p,p≤n→Pg u dl n true p (itM dl s (t+p))
 | 0,_=>h
 | p+1,hp=>(scan2 G hn F z h p (by omega)).pass G (by omega) hn (z p (by omega)) (F p)
theorem Pg.opens (h:Pg s dl 0 false 0 m) (z:Gz s f 0) (hc:s.closed=false):Hgot (stepM (stepM (stepM m none 0 0) none 0 0) none 0 0):=by
 obtain ⟨⟨th,F,st,id,wd,nr,A,l,c,S,pl,pk,ws,gt,g⟩,u,N⟩:=m
 obtain ⟨hS,ht,hd,W,hk,Q,hw,J,a2,Y,I⟩:=h
 simp only at hS ht hd W hk Q hw J a2 Y I
 obtain ⟨-,a3⟩:(0:Nat)=0∧st=gGrow:=by
  rcases J with ⟨h1,-⟩ | ⟨h1,h2⟩
  ·omega
  ·exact ⟨rfl,h2⟩
 subst Y I a3 ht W hk Q hw
 have a1:u.conf.max=1:=z.mx
 have a0:u.live=0:=z.live
 have s1:stepM ⟨⟨0,F,gGrow,id,wd,false,A,l,c,S,pl,false,0,0,g⟩,u,[]⟩ none 0 0=⟨⟨0,F,gOpen,id,wd,false,A,l,c,S,pl,false,0,0,g⟩,{ u with live:=grwV u.live u.conf.max },[]⟩:=by
  rw [stepM_Grow rfl]
  unfold growM
  simp only
  rw [if_pos (by rw [a1,a0]; decide)]
 have G:Fc.nx u.O=(true,[]):=by rw [z.O]; rfl
 have ei:opnI u.O u.n=1:=by unfold opnI; rw [G,z.n_]; rfl
 have en:opnN u.O u.n=1:=by unfold opnN; rw [G,z.n_]; rfl
 have hD:entD u.D 1 1 u.now=[((1:Int),(⟨Wd.wOf 1 0,5,5,5⟩:Ex))]:=by
  rw [z.D,z.now]; rfl
 have s2:stepM ⟨⟨0,F,gOpen,id,wd,false,A,l,c,S,pl,false,0,0,g⟩,{ u with live:=grwV u.live u.conf.max },[]⟩ none 0 0=⟨⟨0,F,gPublish,1,1,false,A,l,c,S,pl,false,0,0,g⟩,{ u with live:=grwV u.live u.conf.max,O:=[],n:=1,D:=[((1:Int),(⟨Wd.wOf 1 0,5,5,5⟩:Ex))] },[]⟩:=by
  rw [stepM_Open rfl]
  unfold openM
  simp only
  rw [G,ei,en,if_pos rfl,hD]
 rw [s1,s2,stepM_Publish rfl]
 unfold publishM
 rw [if_pos (show u.closed=false∧(fnd [((1:Int),(⟨Wd.wOf 1 0,5,5,5⟩:Ex))] 1).isSome=true from ⟨hc,by decide⟩)]
 unfold ownM
 rw [if_neg (by show ¬ false=true; decide)]
 exact has_got _ _ rfl z.L z.now ⟨by show (1:Int)≤1; decide,by show (1:Int)≤((1:Nat):Int); decide⟩ z.C rfl rfl
theorem take_slot (L:List St.Sx) (t:Int):(St.takeR L t).2.1=slotI L t:=by
 unfold St.takeR slotI
 cases L.findIdx? (St.hit t) with
 | none=>rfl
 | some k=>
  simp only
  cases L[k]? <;> rfl
theorem slot_park {L:List St.Sx} {t d:Int} (h:L.findIdx? (St.hit t)=none):slotI (St.parkL L t d) t=0:=by
 rw [(St.park_miss h).1]
 have e:(L ++ [(t,d,0)]).findIdx? (St.hit t)=some L.length:=by
  refine St.ix_some (x:=(t,d,0)) (fun j x u hx=>?_) (by simp) (by simp [St.hit])
  rw [List.getElem?_append_left u] at hx
  exact List.findIdx?_eq_none_iff.1 h x (List.mem_of_getElem? hx)
 unfold slotI
 rw [e]
 simp
theorem Pg.parks (h:Pg s dl n false n m) (F:Gz s f n) (hn:0 < n):Pg { s with live:=grwV s.live s.conf.max,sl:=St.parkL s.sl 0 dl } dl n true 0 (stepM (stepM (stepM m none 0 0) none 0 0) none 0 0):=by
 obtain ⟨⟨th,z,st,id,wd,nr,A,l,c,S,pl,pk,ws,gt,g⟩,u,N⟩:=m
 obtain ⟨hS,ht,J,W,hk,Q,hw,I,a2,Y,G⟩:=h
 simp only at hS ht J W hk Q hw I a2 Y G
 obtain ⟨-,a3⟩:n=n∧st=gGrow:=by
  rcases I with ⟨h1,-⟩ | ⟨h1,h2⟩
  ·omega
  ·exact ⟨rfl,h2⟩
 subst Y G a3 ht W hk Q hw J
 have a1:=F.mx
 have a0:=F.live
 have s1:stepM ⟨⟨0,z,gGrow,id,wd,false,A,l,c,S,pl,false,0,0,g⟩,u,[]⟩ none 0 0=⟨⟨0,z,gPark,id,wd,false,A,l,c,S,pl,false,0,0,g⟩,{ u with live:=grwV u.live u.conf.max },[]⟩:=by
  rw [stepM_Grow rfl]
  unfold growM
  simp only
  rw [if_neg (by rw [a1,a0]; omega),if_neg (by decide)]
 have s2:stepM ⟨⟨0,z,gPark,id,wd,false,A,l,c,S,pl,false,0,0,g⟩,{ u with live:=grwV u.live u.conf.max },[]⟩ none 0 0=⟨⟨0,z,gSnap,id,wd,false,A,l,c,S,pl,true,0,0,g⟩,{ u with live:=grwV u.live u.conf.max,sl:=St.parkL u.sl 0 z },[]⟩:=by
  rw [stepM_Park rfl]; rfl
 rw [s1,s2,stepM_Snap rfl]
 exact look_pg (p:=0) (by omega) ⟨0,z,gSnap,id,wd,false,none,0,0,u.S,pl,true,0,0,g⟩ F.S rfl rfl rfl rfl rfl rfl
theorem Gz.park (h:Gz s f n) (hn:0 < n) (l:List St.Sx):Gz { s with live:=grwV s.live s.conf.max,sl:=l } f n:=by
 refine ⟨h.D,h.S,?_,h.n_,h.C,h.O,h.mx,h.L,h.loc,h.now⟩
 show grwV s.live s.conf.max=n
 unfold grwV
 rw [h.mx,h.live,if_neg (by omega)]
theorem Pg.waits (h:Pg s dl n true n m) (G:Gz s f n) (hn:0 < n) (hc:s.closed=false) (a2:slotI s.sl 0=0) :
  (dl≤5→(stepM (stepM m none 0 0) none 0 0).q.st=gDone∧(stepM (stepM m none 0 0) none 0 0).q.got=0∧(stepM (stepM m none 0 0) none 0 0).q.wish=7∧(stepM (stepM m none 0 0) none 0 0).s.L=[])∧(5 < dl→stepM m none 0 0=m):=by
 obtain ⟨⟨th,z,st,id,wd,nr,A,l,c,S,pl,pk,ws,gt,g⟩,u,N⟩:=m
 obtain ⟨hS,ht,W,a1,hk,Y,hw,Q,a5,hs,J⟩:=h
 simp only at hS ht W a1 hk Y hw Q a5 hs J
 obtain ⟨-,a6⟩:n=n∧st=gWait:=by
  rcases Q with ⟨h1,-⟩ | ⟨h1,h2⟩
  ·omega
  ·exact ⟨rfl,h2⟩
 subst hs J a6 ht a1 hk Y hw W
 have a4:=G.mx
 have a3:=G.live
 have a0:=G.now
 have I:stepM ⟨⟨0,z,gWait,id,wd,false,A,l,c,S,pl,true,0,0,g⟩,u,[]⟩ none 0 0=if z≤5 then ⟨⟨0,z,gLeave,id,wd,false,A,l,c,S,pl,true,7,0,g⟩,u,[]⟩ else ⟨⟨0,z,gWait,id,wd,false,A,l,c,S,pl,true,0,0,g⟩,u,[]⟩:=by
  rw [stepM_Wait rfl]
  unfold waitM
  rw [if_neg (by show ¬ slotI u.sl 0≠0; rw [a2]; decide),if_neg (by show ¬ u.closed=true; rw [hc]; decide)]
  by_cases F:z≤5
  ·rw [if_pos (by show z≤u.now; rw [a0]; exact F),if_pos F]
   unfold upM
   rw [if_pos rfl]
  ·rw [if_neg (by show ¬ z≤u.now; rw [a0]; exact F),if_neg F,if_neg (by show ¬ u.live < u.conf.max; rw [a4,a3]; omega)]
 constructor
 ·intro F
  rw [I,if_pos F,stepM_Leave rfl]
  have ei:(St.takeR u.sl 0).2.1=0:=by rw [take_slot]; exact a2
  unfold leaveM
  simp only
  rw [ei,if_neg (by decide),if_neg (by decide),if_neg (by decide)]
  exact ⟨rfl,rfl,rfl,G.L⟩
 ·intro F
  rw [I,if_neg (by omega)]
theorem get_end (z:Gz s f n) (hn:n≤6) (Q:∀ j,0≤f j∧f j < 4) (a0:s.sl.findIdx? (St.hit 0)=none) :
  Hgot (itM dl s 60)∨((itM dl s 60).q.st=gDone∧(itM dl s 60).q.got=0∧(itM dl s 60).s.L=[] ∧ (((itM dl s 60).q.wish=6∧s.closed=true)∨((itM dl s 60).q.wish=7∧s.closed=false∧dl≤5)))
   ∨ ((itM dl s 60).q.st=gWait∧s.closed=false∧5 < dl∧(itM dl s 60).s.live=n∧(itM dl s 60).s.conf.max=n):=by
 have fin:∀ t,t≤60→(itM dl s t).q.st=gDone→itM dl s 60=itM dl s t:=by
  intro t ht hd
  have e:=itM_stay (k:=t) (stepM_Done hd none 0 0) (60 - t)
  rw [show t+(60 - t)=60 by omega] at e
  exact e
 cases hc:s.closed with
 | true=>
  refine .inr (.inl ?_)
  have I:itM dl s 1=endsM (itM dl s 0) 6:=by
   show stepM (itM dl s 0) none 0 0=_
   rw [stepM_Start rfl]
   unfold startM
   rw [if_pos (by show s.closed=true; exact hc)]
  rw [fin 1 (by omega) (by rw [I]; rfl),I]
  exact ⟨rfl,rfl,z.L,.inl ⟨rfl,rfl⟩⟩
 | false=>
  rcases scan (dl:=dl) z hc hn Q n (Nat.le_refl _) with ⟨t,ht,h⟩ | ⟨h,h0⟩
  ·rw [fin t (by omega) h.st]
   exact .inl h
  ·by_cases hn0:n=0
   ·subst hn0
    have u:=h.opens z hc
    have u:Hgot (itM dl s 6):=u
    rw [fin 6 (by omega) u.st]
    exact .inl u
   ·have u:Pg { s with live:=grwV s.live s.conf.max,sl:=St.parkL s.sl 0 dl } dl n true 0 (itM dl s (3+n+3)):=h.parks z (by omega)
    have G:=z.park (by omega) (St.parkL s.sl 0 dl)
    have F:=scan2 G hn Q h0 u n (Nat.le_refl _)
    obtain ⟨w1,w2⟩:=F.waits G (by omega) hc (slot_park a0)
    by_cases h5:dl≤5
    ·obtain ⟨b1,W,Y,b4⟩:=w1 h5
     refine .inr (.inl ?_)
     have e:=fin (3+n+3+n+2) (by omega) b1
     rw [e]
     exact ⟨b1,W,b4,.inr ⟨Y,rfl,h5⟩⟩
    ·refine .inr (.inr ?_)
     have e:=itM_stay (w2 (by omega)) (60 - (3+n+3+n))
     rw [show 3+n+3+n+(60 - (3+n+3+n))=60 by omega] at e
     rw [e]
     refine ⟨?_,rfl,by omega,?_,?_⟩
     ·rcases F.at_ with ⟨J,-⟩ | ⟨-,J⟩
      ·omega
      ·exact J
     ·rw [F.s_]; exact G.live
     ·rw [F.s_,G.mx]; omega
end
theorem info_by:(Tryz.prog.info? 5).map (fun i=>(i.zero,i.size,i.bytes))=some (some (.int .u8 0),1,1):=by kernel_rfl
end Go.Proofs.YtoiklelghfckgaaGreatDoor.Wo
