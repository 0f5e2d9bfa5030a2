/- A part of the claim. -/
import Derived.Test.YtoiklelghfckgaaGreatDoorYK11
section
set_option linter.unusedVariables false
namespace Go.Proofs.YtoiklelghfckgaaGreatDoor.Wo
open Go Go.ChangeShapes Go.WideShapes Go.ChangeAt Go.RowKit Go.Deep Go.Maps Rw Hi Mt Ba
open Cn (Cf cfE)
theorem marks_sl:∀ (l:List Int) (q:Ws × List Int),(l.foldl markW q).1.sl=q.1.sl
 | [],q=>rfl
 | a :: l,q=>by
  rw[List.foldl_cons,marks_sl l]
  unfold markW
  split <;> rfl
theorem bgn_sl (z F u:List Int) (cl:Bool):(bgnS z F u cl).sl.length<=F.length:=by
 show (bgn3 z F u).1.sl.length<=_
 unfold bgn3
 rw[marks_sl]
 show (bgn2 z F u).sl.length<=_
 unfold bgn2
 have h:=park_len F (bgn1 z u)
 have e:(bgn1 z u).sl.length=0:=by rw[bgn1_sl]; rfl
 omega
theorem bgn_mk (u z h:List Int) (cl:Bool) (F:u.length<=6) (G:h.length<=5):(bgnS u z h cl).M=Le.mk (bgnN u z h):=(mark_facts h (bgn2 u z h) (bgn2_facts u z h F G)).1
def fS (ss:List Int) (j:Nat):Int:=ss.getD j 0 % 4
structure Gs (s:Ws) (f:Nat->Int) (n:Nat):Prop where
 D:s.D=(List.range n).map fun j:Nat=>((j:Int)+1,(⟨Wd.wOf (f j) 0,0,0,0⟩:Ex))
 S:s.S=(List.range n).map fun j:Nat=>(j:Int)+1
 live:s.live=n
 n_:s.n=n
 C:s.C=[]
 now:s.now=0
 O:s.O=[]
 mx:s.conf.max=8
 el:s.ev=[]
 P:s.P=[]
section
variable {s:Ws} {n:Nat} {f:Nat->Int}
theorem Gs.keys (h:Gs s f n):s.D.map Prod.fst=(List.range n).map fun j:Nat=>(j:Int)+1:=by
 rw[h.D,List.map_map]; rfl
theorem Gs.ris (h:Gs s f n):Ris s.D:=by
 rw[h.D]
 show List.Pairwise _ _
 rw[List.pairwise_map]
 exact List.pairwise_lt_range.imp (fun u=>by show (_:Int) < _; simp only; omega)
theorem Gs.no (h:Gs s f n):((n:Int)+1) ∉ s.D.map Prod.fst:=by
 rw[h.keys]
 intro z
 obtain⟨j,u,e⟩:=List.mem_map.1 z
 have:=List.mem_range.1 u
 omega
theorem Gs.more (h:Gs s f n) (hc:s.closed=false) (hn:n < 8) (hf:0<=f n/\f n < 4):Gs (oneMore s (f n) n) f (n+1):=by
 have F:playS s ⟨1,0,0,0,0⟩ = { s with live:=(n:Int)+1 }:=by
  unfold playS
  rw[if_neg (by decide),if_pos (by decide)]
  unfold grwV
  rw[h.mx,h.live,if_pos (by omega)]
 have z:entD s.D ((n:Int)+1) (f n) s.now=(List.range (n+1)).map fun j:Nat=>((j:Int)+1,(⟨Wd.wOf (f j) 0,0,0,0⟩:Ex)):=by
  have e:eE s.D ((n:Int)+1) (f n)=0:=by
   unfold eE
   rw[if_neg (by omega),fnd_none h.no]
   rfl
  unfold entD
  rw[if_pos e,h.now,List.range_succ,List.map_append,<- h.D]
  refine ris_perm (h.ris.ins _) ?_ (((ins_perm h.ris h.no _).symm).trans ?_)
  .rw[h.D,List.map_singleton,<- List.map_singleton (f:=fun j:Nat=>((j:Int)+1,(⟨Wd.wOf (f j) 0,0,0,0⟩:Ex))),<- List.map_append,<- List.range_succ]
   show List.Pairwise _ _
   rw[List.pairwise_map]
   exact List.pairwise_lt_range.imp (fun a0=>by show (_:Int) < _; simp only; omega)
  .exact (List.perm_append_singleton _ _).symm
 have G:playS { s with live:=(n:Int)+1 } ⟨3,0,0,0,f n⟩ = { s with live:=(n:Int)+1,n:=n+1,D:=entD s.D ((n:Int)+1) (f n) s.now }:=by
  unfold playS
  have Q:(⟨3,0,0,0,f n⟩:Ay).do_ % 8=3:=show (3:Int) % 8=3 by decide
  rw[Q,if_neg (by decide),if_neg (by decide),if_neg (by decide),if_pos rfl]
  have u:Fc.nx s.O=(true,[]):=by rw[h.O]; rfl
  have W:opnI s.O s.n=(n:Int)+1:=by unfold opnI; rw[u,h.n_]; rfl
  have en:opnN s.O s.n=n+1:=by unfold opnN; rw[u,h.n_]; rfl
  simp only[W,en,u]
  rw[<- h.O]
 have I:pubS (entD s.D ((n:Int)+1) (f n) s.now) s.S ((n:Int)+1)=(List.range (n+1)).map fun j:Nat=>(j:Int)+1:=by
  unfold pubS
  rw[if_pos]
  .unfold Sn.sWith
   rw[if_neg]
   .rw[h.S,List.range_succ,List.map_append]; rfl
   .rw[h.S]
    intro hm
    obtain⟨j,Y,e⟩:=List.mem_map.1 hm
    have:=List.mem_range.1 Y
    omega
  .rw[z,fnd_is]
   refine decide_eq_true ?_
   rw[List.map_map]
   exact List.mem_map.2 ⟨n,List.mem_range.2 (by omega),rfl⟩
 unfold oneMore
 rw[F,G]
 unfold playS
 have J:(⟨4,(n:Int)+1,0,0,0⟩:Ay).do_ % 8=4:=show (4:Int) % 8=4 by decide
 rw[J,if_neg (by decide),if_neg (by decide),if_neg (by decide),if_neg (by decide),if_pos rfl,if_neg (by show ¬ s.closed=true; rw[hc]; decide)]
 exact⟨z,I,by show (n:Int)+1=((n+1:Nat):Int); omega,rfl,h.C,h.now,h.O,h.mx,h.el,h.P⟩
theorem Gs.lease (h:Gs s f n) (m:Int):Gs (playS s (lsA m)) f n:=by
 unfold playS lsA
 simp only
 rw[if_neg (by decide),if_neg (by decide),if_neg (by decide),if_neg (by decide),if_neg (by decide),if_pos (by decide)]
 exact⟨h.D,h.S,h.live,h.n_,h.C,h.now,h.O,h.mx,h.el,h.P⟩
theorem Gs.leases:∀ (l:List Int) {s:Ws},Gs s f n->Gs ((l.map lsA).foldl playS s) f n
 | [],_,h=>h
 | a :: l,_,h=>Gs.leases l (h.lease a)
theorem Gs.parks:∀ (l:List Int) {s:Ws},Gs s f n->Gs (l.foldl parkW s) f n
 | [],_,h=>h
 | a :: l,_,h=>Gs.parks l ⟨h.D,h.S,h.live,h.n_,h.C,h.now,h.O,h.mx,h.el,h.P⟩
theorem Gs.mark {q:Ws × List Int} (h:Gs q.1 f n) (a:Int):Gs (markW q a).1 f n:=by
 unfold markW
 split
 .exact h
 .exact⟨h.D,h.S,h.live,h.n_,h.C,h.now,h.O,h.mx,h.el,h.P⟩
theorem Gs.marks:∀ (l:List Int) {q:Ws × List Int},Gs q.1 f n->Gs (l.foldl markW q).1 f n
 | [],_,h=>h
 | a :: l,_,h=>Gs.marks l (h.mark a)
end
theorem fS_lt (h:List Int) (j:Nat):0<=fS h j/\fS h j < 4:=by unfold fS; omega
theorem gs_acts (h:List Int) (I:h.length<=6):∀ k,k<=h.length->Gs ((acts1 h k).foldl playS (newS c8 [] [])) (fS h) k/\((acts1 h k).foldl playS (newS c8 [] [])).closed=false:=by
 intro k
 induction k with
 | zero=>intro _; exact⟨⟨rfl,rfl,rfl,rfl,rfl,rfl,rfl,rfl,rfl,rfl⟩,rfl⟩
 | succ k ih=>
  intro hk
  obtain⟨z,u⟩:=ih (by omega)
  rw[acts1_succ,List.foldl_append]
  obtain⟨s,F⟩:∃ s,(acts1 h k).foldl playS (newS c8 [] [])=s:=⟨_,rfl⟩
  rw[F] at z u
  rw[F]
  have G:(tri k (h.getD k 0 % 4)).foldl playS s=oneMore s (fS h k) k:=rfl
  rw[G]
  refine⟨z.more u (by omega) (fS_lt h k),?_⟩
  unfold oneMore
  rw[playS_cl,playS_cl,playS_cl]
  exact u
theorem gs_bgn (h F z:List Int) (J:h.length<=6) (cl:Bool):Gs (bgnS h F z cl) (fS h) h.length:=by
 have G:Gs (bgn1 h z) (fS h) h.length:=by
  unfold bgn1 bgnA
  rw[List.foldl_append]
  exact Gs.leases z (gs_acts h J h.length (Nat.le_refl _)).1
 have I:Gs (bgn2 h F z) (fS h) h.length:=Gs.parks F G
 have u:Gs (bgn3 h F z).1 (fS h) h.length:=Gs.marks z I
 exact⟨u.D,u.S,u.live,u.n_,u.C,u.now,u.O,u.mx,u.el,u.P⟩
def DX (g:Nat->Ex) (n p:Nat) (e:Ex):List (Int × Ex):=(List.range n).map fun j:Nat=>((j:Int)+1,if j=p then e else g j)
theorem DX_fnd (g:Nat->Ex) {n p:Nat} (h:p < n) (e:Ex):fnd (DX g n p e) ((p:Int)+1)=some e:=by
 refine fnd_mem ?_ ?_
 .unfold Nd DX
  rw[List.map_map]
  show List.Pairwise _ _
  rw[List.pairwise_map]
  exact List.pairwise_lt_range.imp (fun u=>by simp only[Function.comp]; omega)
 .exact List.mem_map.2 ⟨p,List.mem_range.2 h,by simp⟩
theorem DX_up (g:Nat->Ex) (n p:Nat) (e:Ex) (k:Ex->Ex):up (DX g n p e) ((p:Int)+1) k=DX g n p (k e):=by
 unfold up DX
 rw[List.map_map]
 refine List.map_congr_left fun j u=>?_
 simp only[Function.comp]
 by_cases h:j=p
 .subst h; simp
 .rw[if_neg (by omega),if_neg h,if_neg h]
theorem DX_self (g:Nat->Ex) (n p:Nat):DX g n p (g p)=(List.range n).map fun j:Nat=>((j:Int)+1,g j):=by
 unfold DX
 refine List.map_congr_left fun j u=>?_
 split
 .next h=>subst h; rfl
 .rfl
theorem fnd_range (g:Nat->Ex) (n:Nat) (id:Int):fnd ((List.range n).map fun j:Nat=>((j:Int)+1,g j)) id=if 1<=id/\id<=n then some (g (id - 1).toNat) else none:=by
 split
 .next h=>
  have u:=DX_fnd g (n:=n) (p:=(id - 1).toNat) (by omega) (g (id - 1).toNat)
  rw[DX_self,show (((id - 1).toNat:Nat):Int)+1=id by omega] at u
  exact u
 .next h=>
  refine fnd_none ?_
  rw[List.map_map]
  intro F
  obtain⟨j,z,e⟩:=List.mem_map.1 F
  have:=List.mem_range.1 z
  simp only[Function.comp] at e
  omega
def Mc.bare (m:Mc):Mc:={ m with q:={ m.q with A:=none,n:=0,c:=0 } }
theorem lookC_bare (q:Ct) (p:Int) (s:Ws) (N:List Int):Mc.bare ⟨lookC q p,s,N⟩=⟨lookC { q with A:=none,n:=0,c:=0 } p,s,N⟩:=by
 unfold lookC Mc.bare
 by_cases h:atB q.S p=true
 .rw[if_pos h,if_pos h]
 .rw[if_neg h,if_neg h]
theorem bare_start (m:Mc):(startC m).bare=startC m.bare:=by
 unfold startC
 by_cases h:m.s.closed=true
 .rw[if_pos h,if_pos (show m.bare.s.closed=true from h)]; rfl
 .rw[if_neg h,if_neg (show ¬ m.bare.s.closed=true from h)]; rfl
theorem bare_snap (m:Mc) (A:Option Addr) (n c:Nat):(snapC m A n c).bare=snapC m.bare none 0 0:=by
 unfold snapC
 rw[lookC_bare]; rfl
theorem bare_load (m:Mc):(loadC m).bare=loadC m.bare:=by
 unfold loadC
 by_cases h:(fnd m.s.D m.q.id).isSome=true/\bW m.s.D m.q.id % 4=0
 .rw[if_pos h,if_pos (show (fnd m.bare.s.D m.bare.q.id).isSome=true/\bW m.bare.s.D m.bare.q.id % 4=0 from h)]; rfl
 .rw[if_neg h,if_neg (show ¬ ((fnd m.bare.s.D m.bare.q.id).isSome=true/\bW m.bare.s.D m.bare.q.id % 4=0) from h)]
  exact lookC_bare m.q _ m.s m.N
theorem bare_swap (m:Mc):(swapC m).bare=swapC m.bare:=by
 unfold swapC
 by_cases h:bK m.s.D m.q.id m.q.word 2=true
 .rw[if_pos h,if_pos (show bK m.bare.s.D m.bare.q.id m.bare.q.word 2=true from h)]; rfl
 .rw[if_neg h,if_neg (show ¬ bK m.bare.s.D m.bare.q.id m.bare.q.word 2=true from h)]; rfl
theorem bare_give (m:Mc):(giveC m).bare=giveC m.bare:=by
 unfold giveC
 by_cases h:dnB (stepG ⟨m.q.g,m.s,m.N⟩).g=true
 .rw[if_pos h,if_pos (show dnB (stepG ⟨m.bare.q.g,m.bare.s,m.bare.N⟩).g=true from h)]
  exact lookC_bare _ _ _ _
 .rw[if_neg h,if_neg (show ¬ dnB (stepG ⟨m.bare.q.g,m.bare.s,m.bare.N⟩).g=true from h)]; rfl
theorem bare_step (m:Mc) (A:Option Addr) (n c:Nat):(stepC m A n c).bare=stepC m.bare none 0 0:=by
 unfold stepC
 by_cases h1:m.q.st=tStart
 .rw[if_pos h1,if_pos (show m.bare.q.st=tStart from h1)]; exact bare_start m
 rw[if_neg h1,if_neg (show ¬ m.bare.q.st=tStart from h1)]
 by_cases h2:m.q.st=tSnap
 .rw[if_pos h2,if_pos (show m.bare.q.st=tSnap from h2)]; exact bare_snap m A n c
 rw[if_neg h2,if_neg (show ¬ m.bare.q.st=tSnap from h2)]
 by_cases h3:m.q.st=tLoad
 .rw[if_pos h3,if_pos (show m.bare.q.st=tLoad from h3)]; exact bare_load m
 rw[if_neg h3,if_neg (show ¬ m.bare.q.st=tLoad from h3)]
 by_cases h4:m.q.st=tSwap
 .rw[if_pos h4,if_pos (show m.bare.q.st=tSwap from h4)]; exact bare_swap m
 rw[if_neg h4,if_neg (show ¬ m.bare.q.st=tSwap from h4)]
 by_cases h5:m.q.st=tGive
 .rw[if_pos h5,if_pos (show m.bare.q.st=tGive from h5)]; exact bare_give m
 rw[if_neg h5,if_neg (show ¬ m.bare.q.st=tGive from h5)]
theorem giveC_on {m:Mc} {r:Gw} (h:stepG ⟨m.q.g,m.s,m.N⟩=r) (u:dnB r.g=false):giveC m = { q:={ m.q with g:=r.g },s:=r.s,N:=r.N }:=by unfold giveC; rw[h,u]; rfl
theorem giveC_end {m:Mc} {r:Gw} (h:stepG ⟨m.q.g,m.s,m.N⟩=r) (u:dnB r.g=true):giveC m = { q:=nextC { m.q with g:=r.g },s:=r.s,N:=r.N }:=by unfold giveC; rw[h,u]; rfl
theorem dn_unlist (a b c d:Int):dnB ⟨a,b,c,d,sUnlist⟩=false:=by kernel_rfl
theorem dn_shrink (a b c d:Int):dnB ⟨a,b,c,d,sShrink⟩=false:=by kernel_rfl
theorem dn_done (a b c d:Int):dnB ⟨a,b,c,d,sDone⟩=true:=by kernel_rfl
def itC (th:Int) (s:Ws):Nat->Mc
 | 0=>⟨⟨th,tStart,none,0,0,[],0,0,0,zg,0⟩,s,[]⟩
 | k+1=>stepC (itC th s k) none 0 0
theorem itC_done {th:Int} {s:Ws} {k:Nat} (h:(itC th s k).q.st=tDone):∀ n,itC th s (k+n)=itC th s k
 | 0=>rfl
 | n+1=>by
  show stepC (itC th s (k+n)) none 0 0=itC th s k
  rw[itC_done h n]
  exact Ci.stepC_done h none 0 0
section
variable (f:Nat->Int)
def entC (p j:Nat):Ex:=if j < p/\f j=0 then ⟨11,0,0,0⟩ else ⟨Wd.wOf (f j) 0,0,0,0⟩
def shutB (p:Nat) (i:Int):Bool:=decide (1<=i/\i<=p) && (f (i - 1).toNat == 0)
def cntC (p:Nat):Nat:=(List.range p).countP (fun j=>f j == 0)
def clC (p:Nat):List Int:=((List.range p).filter (fun j=>f j == 0)).map fun j:Nat=>(j:Int)+1
theorem cntC_le (p:Nat):cntC f p<=p:=by
 have:=List.countP_le_length (p:=fun j=>f j == 0) (l:=List.range p)
 unfold cntC
 simpa using this
theorem cntC_succ (p:Nat):cntC f (p+1)=cntC f p+if f p=0 then 1 else 0:=by
 unfold cntC
 rw[List.range_succ,List.countP_append,List.countP_singleton]
 by_cases h:f p=0
 .rw[if_pos (by simpa using h),if_pos h]
 .rw[if_neg (by simpa using h),if_neg h]
theorem clC_succ (p:Nat):clC f (p+1)=if f p=0 then clC f p ++ [(p:Int)+1] else clC f p:=by
 unfold clC
 rw[List.range_succ,List.filter_append,List.map_append]
 by_cases h:f p=0
 .rw[if_pos h,List.filter_cons_of_pos (by simpa using h)]; rfl
 .rw[if_neg h,List.filter_cons_of_neg (by simpa using h)]; simp
theorem clC_mem (p:Nat) (i:Int):i∈clC f p↔shutB f p i=true:=by
 unfold clC shutB
 rw[List.mem_map,Bool.and_eq_true,decide_eq_true_eq]
 constructor
 .rintro⟨j,z,rfl⟩
  obtain⟨u,h⟩:=List.mem_filter.1 z
  have:=List.mem_range.1 u
  exact⟨by omega,by rw[show ((j:Int)+1 - 1).toNat=j by omega]; exact h⟩
 .rintro⟨u,h⟩
  exact⟨(i - 1).toNat,List.mem_filter.2 ⟨List.mem_range.2 (by omega),h⟩,by omega⟩
theorem shut_succ (p:Nat) (i:Int):shutB f (p+1) i=(shutB f p i || (i == (p:Int)+1 && f p == 0)):=by
 unfold shutB
 by_cases h:i=(p:Int)+1
 .subst h
  rw[show ((p:Int)+1 - 1).toNat=p by omega,decide_eq_true (show 1<=(p:Int)+1/\(p:Int)+1<=((p+1:Nat):Int) by omega),decide_eq_false (show ¬ (1<=(p:Int)+1/\(p:Int)+1<=(p:Int)) by omega)]
  simp
 .have e:decide (1<=i/\i<=((p+1:Nat):Int))=decide (1<=i/\i<=(p:Int)):=decide_eq_decide.2 (by omega)
  rw[e,show (i == (p:Int)+1)=false by simpa using h]
  simp
def lsC (n p:Nat):List Int:=((List.range n).map fun j:Nat=>(j:Int)+1).filter fun i=>!shutB f p i
theorem lsC_mem (n p:Nat) (i:Int):i∈lsC f n p↔(1<=i/\i<=n)/\shutB f p i=false:=by
 unfold lsC
 rw[List.mem_filter,List.mem_map]
 constructor
 .rintro⟨⟨j,u,rfl⟩,h⟩
  have:=List.mem_range.1 u
  exact⟨by omega,by simpa using h⟩
 .rintro⟨z,h⟩
  exact⟨⟨(i - 1).toNat,List.mem_range.2 (by omega),by omega⟩,by rw[h]; rfl⟩
structure Pc (n p:Nat) (m:Mc):Prop where
 S:m.q.S=(List.range n).map fun j:Nat=>(j:Int)+1
 err:m.q.err=0
 at_:(p < n/\m.q.st=tLoad/\m.q.id=(p:Int)+1)\/(p=n/\m.q.st=tDone)
 pl:m.q.place=p
 D:m.s.D=(List.range n).map fun j:Nat=>((j:Int)+1,entC f p j)
 sS:m.s.S=lsC f n p
 live:m.s.live=(n:Int) - cntC f p
 C:m.s.C=clC f p
 n_:m.s.n=n
 cl:m.s.closed=true
 now:m.s.now=0
 N:m.N=[]
 O:m.s.O=[]
 P:m.s.P=[]
theorem lookC_pc {n p:Nat} (G:p<=n) (q:Ct) (z:q.S=(List.range n).map fun j:Nat=>(j:Int)+1):((p < n/\(lookC q p).st=tLoad/\(lookC q p).id=(p:Int)+1)\/(p=n/\(lookC q p).st=tDone))/\(lookC q p).place=p/\(lookC q p).err=q.err:=by
 have F:q.S.length=n:=by rw[z]; simp
 unfold lookC
 by_cases h:p < n
 .have u:atB q.S (p:Int)=true:=by unfold atB; exact decide_eq_true (by omega)
  rw[if_pos u]
  refine⟨.inl ⟨h,rfl,?_⟩,rfl,rfl⟩
  show atI q.S p=(p:Int)+1
  unfold atI
  rw[if_pos (by omega),show ((p:Int)).toNat=p by omega,z,List.getElem?_map,List.getElem?_range h]
  rfl
 .have u:¬ atB q.S (p:Int)=true:=by
   unfold atB
   rw[decide_eq_false (by omega)]
   decide
  rw[if_neg u]
  exact⟨.inr ⟨by omega,rfl⟩,rfl,rfl⟩
variable {f}
section
variable {n p:Nat} {m:Mc}
theorem entC_now (p:Nat):entC f p p=⟨Wd.wOf (f p) 0,0,0,0⟩:=by unfold entC; rw[if_neg (by omega)]
theorem DX_next (n p:Nat) (e:Ex) (u:e=entC f (p+1) p):DX (entC f p) n p e=(List.range n).map fun j:Nat=>((j:Int)+1,entC f (p+1) j):=by
 unfold DX
 refine List.map_congr_left fun j z=>?_
 by_cases h:j=p
 .subst h; rw[if_pos rfl,u]
 .rw[if_neg h]
  have:entC f p j=entC f (p+1) j:=by
   unfold entC
   by_cases h2:j < p
   .by_cases h3:f j=0
    .rw[if_pos ⟨h2,h3⟩,if_pos ⟨by omega,h3⟩]
    .rw[if_neg (fun e=>h3 e.2),if_neg (fun e=>h3 e.2)]
   .rw[if_neg (fun e=>h2 e.1),if_neg (fun e=>by omega)]
  rw[this]
theorem Pc.pass (h:Pc f n p m) (J:p < n) (hn:n<=6) (u:f p≠0) (Y:0<=f p/\f p < 4):Pc f n (p+1) (stepC m none 0 0):=by
 obtain⟨-,W,hid⟩:p < n/\m.q.st=tLoad/\m.q.id=(p:Int)+1:=by
  rcases h.at_ with F | ⟨F,-⟩
  .exact F
  .omega
 have G:fnd m.s.D m.q.id=some ⟨Wd.wOf (f p) 0,0,0,0⟩:=by
  rw[h.D,hid,<- DX_self,DX_fnd _ J,entC_now]
 have I:¬ ((fnd m.s.D m.q.id).isSome=true/\bW m.s.D m.q.id % 4=0):=by
  rintro⟨-,e⟩
  unfold bW at e
  rw[G] at e
  have e:Wd.wOf (f p) 0 % 4=0:=e
  unfold Wd.wOf at e
  omega
 rw[Ci.stepC_load W]
 unfold loadC
 rw[if_neg I]
 have hw:wrap64 (m.q.place+1)=((p+1:Nat):Int):=by
  rw[h.pl]
  unfold wrap64; omega
 have z:=lookC_pc (n:=n) (p:=p+1) (by omega) m.q h.S
 have Q:=lookC_list m.q ((p+1:Nat):Int)
 unfold nextC
 rw[hw]
 refine⟨Q.2.2.2.trans h.S,z.2.2.trans h.err,z.1,z.2.1,?_,?_,?_,?_,h.n_,h.cl,h.now,h.N,h.O,h.P⟩
 .show m.s.D=_
  rw[h.D,<- DX_self,entC_now,DX_next]
  unfold entC
  rw[if_neg (fun e=>u e.2)]
 .show m.s.S=_
  rw[h.sS]
  unfold lsC
  refine List.filter_congr fun i hi=>?_
  rw[shut_succ,show (f p == 0)=false by simpa using u]
  simp
 .show m.s.live=_
  rw[h.live,cntC_succ,if_neg u]
  omega
 .show m.s.C=_
  rw[h.C,clC_succ,if_neg u]
theorem Pc.shut (h:Pc f n p m) (Q:p < n) (hn:n<=6) (z:f p=0):Pc f n (p+1) (stepC (stepC (stepC (stepC (stepC m none 0 0) none 0 0) none 0 0) none 0 0) none 0 0):=by
 obtain⟨⟨th,st,A,l,c,S,pl,id,wd,g,er⟩,s,N⟩:=m
 obtain⟨G,a3,a1,a5,hD,a6,a4,Y,J,a2,F,hN,hO,hP⟩:=h
 simp only at G a3 a1 a5 hD a6 a4 Y J a2 F hN hO hP
 obtain⟨-,a8,hid⟩:p < n/\st=tLoad/\id=(p:Int)+1:=by
  rcases a1 with W | ⟨W,-⟩
  .exact W
  .omega
 subst a8 a3 hN hid a5
 have hE:entC f p p=⟨0,0,0,0⟩:=by rw[entC_now,z]; rfl
 have a0:s.D=DX (entC f p) n p ⟨0,0,0,0⟩:=by rw[hD,<- DX_self,hE]
 have f0:fnd s.D ((p:Int)+1)=some ⟨0,0,0,0⟩:=by rw[a0,DX_fnd _ Q]
 have f1:fnd (DX (entC f p) n p ⟨6,0,0,0⟩) ((p:Int)+1)=some ⟨6,0,0,0⟩:=DX_fnd _ Q _
 have f2:fnd (DX (entC f p) n p ⟨11,0,0,0⟩) ((p:Int)+1)=some ⟨11,0,0,0⟩:=DX_fnd _ Q _
 have u1:up s.D ((p:Int)+1) (exS 0 2 s.now)=DX (entC f p) n p ⟨6,0,0,0⟩:=by rw[a0,DX_up,F]; rfl
 have u2:up (DX (entC f p) n p ⟨6,0,0,0⟩) ((p:Int)+1) (exS 6 3 s.now)=DX (entC f p) n p ⟨11,0,0,0⟩:=by rw[DX_up,F]; rfl
 -- load
 have s1:stepC ⟨⟨th,tLoad,A,l,c,S,p,(p:Int)+1,wd,g,0⟩,s,[]⟩ none 0 0=⟨⟨th,tSwap,A,l,c,S,p,(p:Int)+1,0,g,0⟩,s,[]⟩:=by
  rw[Ci.stepC_load rfl]
  have hw:bW s.D ((p:Int)+1)=0:=by unfold bW; rw[f0]; rfl
  unfold loadC
  rw[if_pos (show (fnd s.D ((p:Int)+1)).isSome=true/\bW s.D ((p:Int)+1) % 4=0 from⟨by rw[f0]; rfl,by rw[hw]; rfl⟩)]
  show (⟨⟨th,tSwap,A,l,c,S,p,(p:Int)+1,bW s.D ((p:Int)+1),g,0⟩,s,[]⟩:Mc)=_
  rw[hw]
 -- swap
 have u:stepC ⟨⟨th,tSwap,A,l,c,S,p,(p:Int)+1,0,g,0⟩,s,[]⟩ none 0 0=⟨⟨th,tGive,A,l,c,S,p,(p:Int)+1,6,⟨th,3,(p:Int)+1,6,sClose⟩,0⟩,{ s with D:=DX (entC f p) n p ⟨6,0,0,0⟩ },[]⟩:=by
  rw[Ci.stepC_swap rfl]
  have hk:bK s.D ((p:Int)+1) 0 2=true:=by unfold bK; rw[f0]; rfl
  have hv:bV s.D ((p:Int)+1) 0 2=6:=by unfold bV; rw[f0]; rfl
  unfold swapC
  rw[if_pos (show bK s.D ((p:Int)+1) 0 2=true from hk)]
  show (⟨⟨th,tGive,A,l,c,S,p,(p:Int)+1,bV s.D ((p:Int)+1) 0 2,⟨th,3,(p:Int)+1,bV s.D ((p:Int)+1) 0 2,sClose⟩,0⟩,{ s with D:=up s.D ((p:Int)+1) (exS 0 2 s.now) },[]⟩:Mc)=_
  rw[hv,u1]
 -- close
 have s3:stepC ⟨⟨th,tGive,A,l,c,S,p,(p:Int)+1,6,⟨th,3,(p:Int)+1,6,sClose⟩,0⟩,{ s with D:=DX (entC f p) n p ⟨6,0,0,0⟩ },[]⟩ none 0 0 =
   ⟨⟨th,tGive,A,l,c,S,p,(p:Int)+1,6,⟨th,3,(p:Int)+1,6,sUnlist⟩,0⟩,{ s with D:=DX (entC f p) n p ⟨11,0,0,0⟩,C:=clsC s.n s.C ((p:Int)+1),M:=Le.mk [],ev:=s.ev ++ [⟨s.step,th,3,3,(p:Int)+1,0⟩] },[]⟩:=by
  rw[Ci.stepC_give rfl]
  refine giveC_on (r:=⟨⟨th,3,(p:Int)+1,6,sUnlist⟩,{ s with D:=DX (entC f p) n p ⟨11,0,0,0⟩,C:=clsC s.n s.C ((p:Int)+1),M:=Le.mk [],ev:=s.ev ++ [⟨s.step,th,3,3,(p:Int)+1,0⟩] },[]⟩) ?_ (dn_unlist _ _ _ _)
  show stepG ⟨⟨th,3,(p:Int)+1,6,sClose⟩,{ s with D:=DX (entC f p) n p ⟨6,0,0,0⟩ },[]⟩=_
  rw[stepG_close rfl]
  have hk:bK (DX (entC f p) n p ⟨6,0,0,0⟩) ((p:Int)+1) 6 3=true:=by unfold bK; rw[f1]; rfl
  unfold closeG
  rw[if_pos (show bK (DX (entC f p) n p ⟨6,0,0,0⟩) ((p:Int)+1) 6 3=true from hk)]
  show (⟨⟨th,3,(p:Int)+1,6,sUnlist⟩,{ s with D:=up (DX (entC f p) n p ⟨6,0,0,0⟩) ((p:Int)+1) (exS 6 3 s.now),C:=clsC s.n s.C ((p:Int)+1),M:=Le.mk [],ev:=s.ev ++ [⟨s.step,th,3,3,(p:Int)+1,0⟩] },[]⟩:Gw)=_
  rw[u2]
 -- unlist
 have s4:∀ u:Ws,u.D=DX (entC f p) n p ⟨11,0,0,0⟩->stepC ⟨⟨th,tGive,A,l,c,S,p,(p:Int)+1,6,⟨th,3,(p:Int)+1,6,sUnlist⟩,0⟩,u,[]⟩ none 0 0 =
   ⟨⟨th,tGive,A,l,c,S,p,(p:Int)+1,6,⟨th,3,(p:Int)+1,6,sShrink⟩,0⟩,{ u with S:=Sn.sWithout u.S ((p:Int)+1) },[]⟩:=by
  intro u a7
  rw[Ci.stepC_give rfl]
  refine giveC_on (r:=⟨⟨th,3,(p:Int)+1,6,sShrink⟩,{ u with S:=Sn.sWithout u.S ((p:Int)+1) },[]⟩) ?_ (dn_shrink _ _ _ _)
  show stepG ⟨⟨th,3,(p:Int)+1,6,sUnlist⟩,u,[]⟩=_
  rw[stepG_unlist rfl]
  have hu:unlS u.D u.S ((p:Int)+1)=Sn.sWithout u.S ((p:Int)+1):=by unfold unlS; rw[a7,f2]; rfl
  show (⟨⟨th,3,(p:Int)+1,6,sShrink⟩,{ u with S:=unlS u.D u.S ((p:Int)+1) },[]⟩:Gw)=_
  rw[hu]
 -- shrink
 have s5:∀ u:Ws,stepC ⟨⟨th,tGive,A,l,c,S,p,(p:Int)+1,6,⟨th,3,(p:Int)+1,6,sShrink⟩,0⟩,u,[]⟩ none 0 0 =
   ⟨nextC ⟨th,tGive,A,l,c,S,p,(p:Int)+1,6,⟨th,3,(p:Int)+1,6,sDone⟩,0⟩,{ u with live:=shrV u.live },[]⟩:=by
  intro u
  rw[Ci.stepC_give rfl]
  refine giveC_end (r:=⟨⟨th,3,(p:Int)+1,6,sDone⟩,{ u with live:=shrV u.live },[]⟩) ?_ (dn_done _ _ _ _)
  show stepG ⟨⟨th,3,(p:Int)+1,6,sShrink⟩,u,[]⟩=_
  rw[stepG_shrink rfl]
  rfl
 rw[s1,u,s3,s4 _ rfl,s5]
 have hw:wrap64 ((p:Int)+1)=((p+1:Nat):Int):=by
  unfold wrap64; omega
 have I:=lookC_pc (n:=n) (p:=p+1) (by omega) ⟨th,tGive,A,l,c,S,p,(p:Int)+1,6,⟨th,3,(p:Int)+1,6,sDone⟩,0⟩ G
 have hs:=lookC_list ⟨th,tGive,A,l,c,S,p,(p:Int)+1,6,⟨th,3,(p:Int)+1,6,sDone⟩,0⟩ ((p+1:Nat):Int)
 unfold nextC
 simp only[hw]
 have a9:=cntC_le f p
 refine⟨hs.2.2.2.trans G,I.2.2,I.1,I.2.1,?_,?_,?_,?_,J,a2,F,rfl,hO,hP⟩
 .show DX (entC f p) n p ⟨11,0,0,0⟩=_
  refine DX_next n p _ ?_
  unfold entC
  rw[if_pos ⟨by omega,z⟩]
 .show Sn.sWithout s.S ((p:Int)+1)=_
  rw[a6]
  unfold Sn.sWithout lsC
  rw[List.filter_filter]
  refine List.filter_congr fun i hi=>?_
  rw[shut_succ,z,show (i != (p:Int)+1) = !(i == (p:Int)+1) from rfl]
  cases shutB f p i <;> cases (i == (p:Int)+1) <;> rfl
 .show shrV s.live=_
  rw[a4,cntC_succ,if_pos z]
  unfold shrV
  rw[if_pos (by omega)]
  omega
 .show clsC s.n s.C ((p:Int)+1)=_
  have e0:Fc.kn n (clC f p) ((p:Int)+1) 10=0:=by
   unfold Fc.kn
   rw[if_neg (by omega),if_neg (by rw[clC_mem]; unfold shutB; rw[decide_eq_false (by omega)]; simp)]
  unfold clsC
  rw[clC_succ,if_pos z,J,Y,e0,if_pos rfl]
end
theorem pc_zero {s:Ws} {n:Nat} (th:Int) (h:Gs s f n) (hc:s.closed=false):Pc f n 0 (itC th s 2):=by
 have z:itC th s 1=⟨⟨th,tSnap,none,0,0,[],0,0,0,zg,0⟩,ptS { s with closed:=true } th 3 0 0,[]⟩:=by
  show stepC (itC th s 0) none 0 0=_
  rw[Ci.stepC_start rfl]
  unfold startC
  rw[if_neg (by show ¬ s.closed=true; rw[hc]; decide)]
  rfl
 have F:itC th s 2=⟨lookC ⟨th,tSnap,none,0,0,s.S,0,0,0,zg,0⟩ 0,ptS { s with closed:=true } th 3 0 0,[]⟩:=by
  show stepC (itC th s 1) none 0 0=_
  rw[z,Ci.stepC_snap rfl]
  rfl
 rw[F]
 have u:=lookC_pc (n:=n) (p:=0) (by omega) ⟨th,tSnap,none,0,0,s.S,0,0,0,zg,0⟩ h.S
 have G:=lookC_list ⟨th,tSnap,none,0,0,s.S,0,0,0,zg,0⟩ ((0:Nat):Int)
 refine⟨G.2.2.2.trans h.S,u.2.2,u.1,u.2.1,?_,?_,?_,?_,h.n_,rfl,h.now,rfl,h.O,h.P⟩
 .show s.D=_
  rw[h.D]
  refine List.map_congr_left fun j I=>?_
  unfold entC
  rw[if_neg (by omega)]
 .show s.S=_
  rw[h.S]
  unfold lsC
  rw[List.filter_eq_self.2]
  intro i hi
  unfold shutB
  rw[decide_eq_false (by omega)]
  rfl
 .show s.live=_
  rw[h.live]
  show (n:Int)=(n:Int) - ((0:Nat):Int)
  omega
 .show s.C=_
  rw[h.C]; rfl
theorem pc_all {s:Ws} {n:Nat} (th:Int) (h:Gs s f n) (hc:s.closed=false) (hn:n<=6) (z:∀ j,0<=f j/\f j < 4):∀ p,p<=n -> ∃ t,t<=2+5 * p/\Pc f n p (itC th s t)
 | 0,_=>⟨2,Nat.le_refl _,pc_zero th h hc⟩
 | p+1,hp=>by
  obtain⟨t,F,u⟩:=pc_all th h hc hn z p (by omega)
  by_cases h0:f p=0
  .exact⟨t+5,by omega,u.shut (by omega) hn h0⟩
  .exact⟨t+1,by omega,u.pass (by omega) hn h0 (z p)⟩
theorem pc_end {s:Ws} {n:Nat} (th:Int) (h:Gs s f n) (hc:s.closed=false) (hn:n<=6) (G:∀ j,0<=f j/\f j < 4):Pc f n n (itC th s 60)/\(itC th s 60).q.st=tDone:=by
 obtain⟨t,I,z⟩:=pc_all th h hc hn G n (Nat.le_refl _)
 have F:(itC th s t).q.st=tDone:=by
  rcases z.at_ with ⟨u,-⟩ | ⟨-,u⟩
  .omega
  .exact u
 have e:=itC_done F (60 - t)
 rw[show t+(60 - t)=60 by omega] at e
 rw[e]
 exact⟨z,F⟩
end
theorem sidx_any (A:Option Addr) (n c:Nat) (xs:List Int) (x:Int) (w:World) (r:Rd (Value.int .u64) w w.heap.size A n c xs) :
  Calls Tryz.prog 22 #[.agg #[.slice A n c],.int .u64 x] w fun e w'=>e=.returned (.int .i64 (Sn.sIdx xs x))/\Below w.heap.size w w':=by
 have R:=Lh r
 clear r
 go_enter Tryz.func22,Tryz.ntmps22
 go_wp2_with fail
 refine (Sl.index_any A n c xs x w.heap.size _ (R.out.alloc (Nat.le_refl _) _)).mono ?_
 rintro e w' ⟨rfl,rfl⟩
 go_wp2_with fail
 go_ret
 exact⟨rfl,(Below.refl _ _).alloc (Nat.le_refl _) _⟩
end Go.Proofs.YtoiklelghfckgaaGreatDoor.Wo
end
section
set_option maxRecDepth 100000
set_option maxHeartbeats 8000000
set_option linter.unusedVariables false
namespace Go.Proofs.YtoiklelghfckgaaGreatDoor.Wo
open Go Go.ChangeShapes Go.WideShapes Go.ChangeAt Go.RowKit Go.Deep Go.Maps Rw Hi Mt Ba
open Cn (Cf cfE)
structure Ce (f:Nat->Int) (n:Nat) (q:Ct) (s:Ws):Prop where
 st:(q.st.toList == [100,111,110,101])=true
 err:q.err=0
 D:s.D=(List.range n).map fun j:Nat=>((j:Int)+1,entC f n j)
 sS:s.S=lsC f n n
 live:s.live=(n:Int) - cntC f n
 C:s.C=clC f n
 n_:s.n=n
 cl:s.closed=true
 O:s.O=[]
 P:s.P=[]
theorem ce_of {f:Nat->Int} {n:Nat} {m z:Mc} (h:m.bare=z) (u:Pc f n n z) (F:z.q.st=tDone):Ce f n m.q m.s:=by
 subst h
 exact⟨by show ((m.q.st).toList == _)=true; rw[show m.q.st=tDone from F]; kernel_rfl,u.err,u.D,u.sS,u.live,u.C,u.n_,u.cl,u.O,u.P⟩
section
variable {f:Nat->Int} {n j:Nat} {q:Ct} {s:Ws}
theorem Ce.word (h:Ce f n q s) (u:j < n) (z:0<=f j/\f j < 4):bW s.D ((j:Int)+1)=if f j=0 then 11 else f j:=by
 unfold bW
 rw[h.D,fnd_range,if_pos ⟨by omega,by omega⟩,show ((j:Int)+1 - 1).toNat=j by omega]
 show (entC f n j).word=_
 unfold entC
 by_cases h0:f j=0
 .rw[if_pos ⟨u,h0⟩,if_pos h0]
 .rw[if_neg (fun e=>h0 e.2),if_neg h0]
  show Wd.wOf (f j) 0=f j
  unfold Wd.wOf
  omega
theorem Ce.kn (h:Ce f n q s) (u:j < n):(Fc.kn s.n s.C ((j:Int)+1) 6 == 0)=decide (f j≠0):=by
 unfold Fc.kn
 rw[h.n_,h.C,if_neg (by omega)]
 have e:((j:Int)+1∈clC f n)↔f j=0:=by
  rw[clC_mem]
  unfold shutB
  rw[decide_eq_true (by omega),show ((j:Int)+1 - 1).toNat=j by omega]
  simp
 by_cases h0:f j=0
 .rw[if_pos (e.2 h0),decide_eq_false (fun h=>h h0)]; rfl
 .rw[if_neg (fun h=>h0 (e.1 h)),decide_eq_true h0]; rfl
theorem Ce.idx (h:Ce f n q s) (F:j < n):(f j=0->Sn.sIdx s.S ((j:Int)+1) = -1)/\(f j≠0->0<=Sn.sIdx s.S ((j:Int)+1)):=by
 have e:(j:Int)+1∈s.S↔f j≠0:=by
  rw[h.sS,lsC_mem]
  unfold shutB
  rw[decide_eq_true (by omega),show ((j:Int)+1 - 1).toNat=j by omega]
  simp
  omega
 refine⟨fun u=>Sn.sIdx_miss _ _ (fun z=>e.1 z u),fun u=>?_⟩
 by_cases h3:Sn.sIdx s.S ((j:Int)+1) < 0
 .exact absurd (e.2 u) ((Sn.sIdx_neg s.S _).1 h3)
 .omega
end
theorem wall_any (w:World) {base:Nat} {u:Nat->Nat} {x:Wp} {s:Ws} (h:Wv base u w x s) (G:s.ev.length<=1000):Calls Tryz.prog 27 #[ptr x.ph] w fun e w'=>∃ A c,e=.returned (.slice A s.ev.length c)/\Below w.heap.size w w':=by
 obtain⟨r,F⟩:=h.hist
 refine (Hi.all_any w base x.ph r s.step s.ev F (by omega)).mono ?_
 rintro e w' ⟨A,c,rfl,-,z⟩
 exact⟨A,c,rfl,z⟩
def tA (n1 n0:Nat):Nat->Value->World->Prop
 | 4,v,_=>∃ A c,v=.slice A n1 c
 | _,v,_=>∃ A c,v=.slice A n0 c
theorem tA_mono (z u:Nat) (i:Nat) (v:Value) (w w':World) (h:tA z u i v w) (_:Below w.heap.size w w'):tA z u i v w':=by
 by_cases h4:i=4
 .subst h4; exact h
 .have e:∀ w,tA z u i v w = ∃ A c,v=.slice A u c:=fun w=>by
   unfold tA
   split
   .exact absurd rfl h4
   .rfl
  rw[e] at h ⊢
  exact h
theorem closeall_long (W:World) (F:Tb.Tabs W) (I Aw:Option Addr) (h cs nw J:Nat) (hm:h<=9223372036854775807) (a0:nw<=9223372036854775807) (G:6 < h\/5 < nw) :
  Calls Tryz.prog 4 #[.slice I h cs,.slice Aw nw J] W fun e w'=>e=.returned (.bool true)/\Below W.heap.size W w':=by
 have z:=Lh F
 clear F
 by_cases h1:6 < h
 .have Q:decide ((6:Int) < (h:Int))=true:=decide_eq_true (by omega)
  have Y:decide (6 < h)=true:=decide_eq_true (by omega)
  clear G h1
  go_enter Tryz.func4,Tryz.ntmps4
  go_wp2_with fail
  refine (awake21_any W z.out).mono ?_
  rintro e w1 ⟨rfl,b1⟩
  have u:=Lh b1
  clear b1
  go_wp2_with fail
  go_ret
  exact⟨rfl,u.out⟩
 .have Q:decide ((6:Int) < (h:Int))=false:=decide_eq_false (by omega)
  have Y:decide (6 < h)=false:=decide_eq_false (by omega)
  have t1:decide ((5:Int) < (nw:Int))=true:=decide_eq_true (by omega)
  have a1:decide (5 < nw)=true:=decide_eq_true (by omega)
  clear G h1
  go_enter Tryz.func4,Tryz.ntmps4
  go_wp2_with fail
  refine (awake21_any W z.out).mono ?_
  rintro e w1 ⟨rfl,b1⟩
  have u:=Lh b1
  clear b1
  go_wp2_with fail
  go_ret
  exact⟨rfl,u.out⟩
theorem closeall_any (W:World) (hT:Tb.Tabs W) (As Aw:Option Addr) (ns cs nw cw:Nat) (Q ws:List Int)
  (hs:Rd (Value.int .u8) W W.heap.size As ns cs Q) (hw:Rd (Value.int .u8) W W.heap.size Aw nw cw ws) (us:∀ z∈Q,0<=z/\z<=255) (uw:∀ z∈ws,0<=z/\z<=255) (ar:ns<=6) (cu:nw<=5) :
  Calls Tryz.prog 4 #[.slice As ns cs,.slice Aw nw cw] W fun e w'=>e=.returned (.bool true)/\Below W.heap.size W w':=by
 have HT:=Lh hT
 have bn:=Lh hs
 have bv:=Lh hw
 have bp:=Lh us
 have bq:=Lh uw
 have aO:=Lh hs.len
 have bh:=Lh hw.len
 have aR:=Lh ar
 clear hT hs hw us uw
 have t0:decide ((6:Int) < (ns:Int))=false:=decide_eq_false (by omega)
 have t1:decide ((5:Int) < (nw:Int))=false:=decide_eq_false (by omega)
 have cy:decide (6 < ns)=false:=decide_eq_false (by omega)
 have cz:decide (5 < nw)=false:=decide_eq_false (by omega)
 go_enter Tryz.func4,Tryz.ntmps4
 go_wp2_with fail
 refine (awake21_any W HT.out).mono ?_
 rintro e w1 ⟨rfl,b1⟩
 have ac:=Lh b1
 clear b1 HT
 go_wp2_with fail
 refine (begin_any w1 As Aw none ns cs nw cw 0 0 Q ws [] (bn.out.later ac.out) (bv.out.later ac.out) Rd.nil_ bp.out bq.out (fun z h=>by cases h) ar cu (by decide) false).mono ?_
 rintro e w3 ⟨base,x,I,v,rfl,cp,h3,-,b3⟩
 have ba:Hid (W.heap.size<=base):=Lh (by have:=ac.out.size; omega)
 have aI:Hid (Below W.heap.size W w3):=Lh (ac.out.trans (b3.mono ac.out.size))
 have aT:=Lh h3
 have a5:Hid (Gs (bgnS Q ws [] false) (fS Q) ns):=Lh (by have e:=gs_bgn Q ws [] (by rw[aO.out]; exact ar) false; rw[aO.out] at e; exact e)
 have aS:Hid ((bgnS Q ws [] false).sl.length<=5):=Lh (by have:=bgn_sl Q ws [] false; rw[bh.out] at this; omega)
 have aP:Hid ((bgnS Q ws [] false).M=Le.mk []):=Lh (bgn_mk Q ws [] false (by rw[aO.out]; exact ar) (by decide))
 have aK:Hid ((bgnS Q ws [] false).closed=false):=Lh rfl
 obtain⟨s0,bJ⟩:∃ s0,bgnS Q ws [] false=s0:=⟨_,rfl⟩
 rw[bJ] at aT a5 aS aP aK ⊢
 clear h3 b3 cp ac bJ bv bq bh t0 cy t1 cz
 go_upto_region 8 with (first
  | (refine store_w rfl _ _ rfl w3.heap.size rfl v s0 rfl (th_zero w3) ?_; intro w4 cv bU; have ad:Hid (Below w3.heap.size w3 w4):=Lh (((Below.refl _ w3).alloc (Nat.le_refl _) _).trans (bU.below (by simp) (fun k hk=>by omega))); clear cv bU))
 have bt:=Lh (aT.out.later ad.out)
 have ad:Hid (Below W.heap.size W w4):=Lh (aI.out.trans (ad.out.mono aI.out.size))
 clear aT aI
 go_wp2_with fail
 refine (cbegin_any 1 w4).mono ?_
 rintro e w5 ⟨rfl,b5⟩
 have bu:=Lh (bt.out.later b5)
 have ax:Hid (Below W.heap.size W w5):=Lh (ad.out.trans (b5.mono ad.out.size))
 clear b5 bt ad
 obtain⟨m0,ag⟩:∃ m0:Mc,(⟨⟨1,tStart,none,0,0,[],0,0,0,zg,0⟩,s0,[]⟩:Mc)=m0:=⟨_,rfl⟩
 have ch:=Lh ag
 have bb:Hid (Ci m0 0):=Lh (by
  rw[<- ag]
  refine⟨aP.out,by show U64 s0.now; rw[a5.out.now]; exact⟨by decide,by decide⟩,by have:=aS.out; show s0.sl.length<=900; omega,by show s0.C.length<=0; rw[a5.out.C]; exact Nat.le_refl _,by show s0.ev.length<=0; rw[a5.out.el]; exact Nat.le_refl _,by show s0.S.length<=900; rw[a5.out.S]; simp; omega,by show 0<=s0.live/\s0.live<=1000; rw[a5.out.live]; omega,(show U64 (0:Int) from⟨by decide,by decide⟩),(show U64 (0:Int) from⟨by decide,by decide⟩),.inl rfl⟩)
 go_upto_region 9 with (first
  | (refine stB rt_ct rfl _ _ rfl w5.heap.size rfl (Ct.cells ⟨1,tStart,none,0,0,[],0,0,0,zg,0⟩) rfl (there_alloc 82 [.int .i64 0,.string ⟨#[]⟩,.slice none 0 0,.int .i64 0,.int .u64 0,.int .u64 0,.int .i64 0,.int .i64 0,.int .u64 0,.int .u64 0,.string ⟨#[]⟩,.int .i64 0] w5) rfl (by kernel_rfl) ?_; intro w6 bP bX; have aD:=Lh bP; have aJ:Hid (Below w5.heap.size w5 w6):=Lh (((Below.refl _ w5).alloc (Nat.le_refl _) _).trans (bX.below (by simp) (fun k hk=>by omega))); clear bP bX))
 obtain⟨gb,bC⟩:∃ gb,w5.heap.size=gb:=⟨_,rfl⟩
 have be:Hid (W.heap.size<=gb):=Lh (by have:=ax.out.size; omega)
 obtain⟨aV,h6,l6,c6⟩:=bu.out.var8 aJ.out
 rw[bC] at aD c6 ⊢
 have b2:Hid (Bw W base aV x 11 gb w6 m0.s m0.q.cells):=Lh (by rw[<- ag]; exact⟨h6,aD.out,c6 gb (Nat.le_refl _) aD.out.lt,ax.out.trans (aJ.out.mono ax.out.size),be.out,ba.out⟩)
 have bg:Hid (seesC m0.q.st->Lr base aV w6 m0.q.A m0.q.n m0.q.c m0.q.S):=Lh (fun h=>by rw[<- ag] at h; exact absurd (show seesC tStart from h) (by unfold seesC; decide))
 have bc:Hid (m0.bare=itC 1 s0 0):=Lh (by rw[<- ag]; rfl)
 clear h6 l6 c6 aD aJ ax bu bC be ba aS aP ag ch
 go_upto_region 10 with (fail)
 go_loopw [39] (fun i wr=>∃ (k:Nat) (m:Mc) (I:Nat->Nat),k<=60/\i=.int .i64 k/\Hid (m.bare=itC 1 s0 k)/\Hid (Bw W base I x 11 gb wr m.s m.q.cells)/\Hid (seesC m.q.st->Lr base I wr m.q.A m.q.n m.q.c m.q.S)/\Hid (Ci m k)) (fun i _=>60 - (intOf i).toNat)
 case atStart=>exact⟨0,m0,aV,Nat.zero_le _,rfl,bc,b2,bg,bb⟩
 case round=>
  clear b2 bg bc bb
  obtain⟨k,m,I,hk,rfl,HE,F,HL,HC⟩:=hrel
  by_cases a4:k < 60
  .have q1:decide ((k:Int) < 60)=true:=decide_eq_true (by omega)
   have t3:IntKind.i64.wrap ((k:Int)+1)=(k:Int)+1:=by rw[IntKind.wrap_i64]; omega
   have bj:Hid (Calls Tryz.prog 20 #[m.q.val,ptr x.pw] wr (Cpost base I x wr m k)):=Lh (close_step wr F.out.wv HC.out (by omega) HL.out)
   clear HL HC
   go_wp2_with (first
    | (refine ldB rt_ct rfl _ rfl gb rfl m.q.cells F.out.vb ?_))
   refine bj.out.mono ?_
   rintro e w8 ⟨A',n',c',rfl,⟨col8,h8,z8,l8,aX⟩,aW⟩
   have F:=Lh (F.out.call h8 z8 l8)
   have bd:Hid ((stepC m A' n' c').bare=itC 1 s0 (k+1)):=Lh (by rw[bare_step,HE.out]; rfl)
   obtain⟨m8,bH⟩:∃ m8,stepC m A' n' c'=m8:=⟨_,rfl⟩
   rw[bH] at F bd aX aW ⊢
   have cd:=Lh aX
   have bZ:=Lh aW
   clear h8 z8 l8 aX aW HE bj bH
   go_wp2_with (first
    | (refine stB rt_ct rfl _ _ rfl gb rfl m8.q.cells rfl F.out.vb.th rfl (by kernel_rfl) ?_; intro w9 bQ b0; have bY:=Lh (F.out.put bQ b0); have ce:Hid (seesC m8.q.st->Lr base col8 w9 m8.q.A m8.q.n m8.q.c m8.q.S):=Lh (fun h=>(cd.out h).fz b0 (fun g e=>by rw[e,F.out.cb]; decide)); clear bQ b0))
   go_roundw
   case rel=>exact⟨k+1,m8,col8,by omega,by go_num,bd,bY,ce,bZ⟩
   case measure=>simp[intOf]; omega
  .obtain rfl:k=60:=by omega
   have q1:decide (((60:Nat):Int) < 60)=false:=rfl
   have a0:Hid (Ce (fS Q) ns m.q m.s):=Lh (by
    obtain⟨hP,hd⟩:=pc_end 1 a5.out aK.out ar (fS_lt Q)
    exact ce_of HE.out hP hd)
   have af:Hid (m.s.ev.length<=60/\m.s.sl.length<=900/\U64 m.s.now):=Lh ⟨HC.out.el,HC.out.sl,HC.out.nw⟩
   obtain⟨⟨q,s,N⟩,hm⟩:∃ m',m=m':=⟨_,rfl⟩
   subst hm
   have F:Hid (Bw W base I x 11 gb wr s q.cells):=F
   have a0:Hid (Ce (fS Q) ns q s):=a0
   have af:Hid (s.ev.length<=60/\s.sl.length<=900/\U64 s.now):=af
   clear HE HL HC hk a4 a5 aK
   go_upto_region 15 with (fail)
   go_loopw [9,47] (fun fr i wy=>∃ (j:Nat) (c:Int),j<=ns/\fr=.int .i64 c/\i=.int .i64 j/\Hid (c=cntC (fS Q) j)/\Hid (Bw W base I x 11 gb wy s q.cells)) (fun _ i _=>ns - (intOf i).toNat)
   case atStart=>exact⟨0,0,Nat.zero_le _,rfl,rfl,Lh rfl,F⟩
   case round=>
    clear F q1
    obtain⟨j,c,hj,rfl,rfl,ay,F⟩:=hrel
    by_cases a4:j < ns
    .have q1:decide ((j:Int) < (ns:Int))=true:=decide_eq_true (by omega)
     have t3:IntKind.i64.wrap ((j:Int)+1)=(j:Int)+1:=by rw[IntKind.wrap_i64]; omega
     have t4:IntKind.u64.wrap ((j:Int)+1)=(j:Int)+1:=by rw[IntKind.wrap_u64]; omega
     have cK:0<=c/\c<=6:=by have:=ay.out; have:=cntC_le (fS Q) j; omega
     have t5:IntKind.i64.wrap (c+1)=c+1:=by rw[IntKind.wrap_i64]; omega
     have HU:Hid (U64 ((j:Int)+1)):=Lh ⟨by omega,by omega⟩
     obtain⟨b,o,z,cn,co,hz,hc⟩:=(bn.out.later F.out.bl).get a4
     have cx:=bp.out z (List.mem_of_getElem? hz)
     obtain⟨J,a8⟩:∃ J,fS Q j=J:=⟨_,rfl⟩
     have cL:z.tmod 4=J:=by
      rw[Int.tmod_eq_emod_of_nonneg cx.1,<- a8]
      unfold fS
      rw[List.getD_eq_getElem?_getD,hz]; rfl
     have a9:0<=J/\J < 4:=by rw[<- a8]; exact fS_lt Q j
     have t6:IntKind.u8.wrap J=J:=by rw[IntKind.wrap_u8]; omega
     have aE:Hid (bW s.D ((j:Int)+1)=if J=0 then 11 else J):=Lh (by rw[<- a8]; exact a0.out.word a4 (fS_lt Q j))
     have aC:Hid ((Fc.kn s.n s.C ((j:Int)+1) 6 == 0)=decide (J≠0)):=Lh (by rw[<- a8]; exact a0.out.kn a4)
     have aB:Hid ((J=0->Sn.sIdx s.S ((j:Int)+1) = -1)/\(J≠0->0<=Sn.sIdx s.S ((j:Int)+1))):=Lh (by rw[<- a8]; exact a0.out.idx a4)
     have ae:Hid (((cntC (fS Q) (j+1):Nat):Int)=c+if J=0 then 1 else 0):=Lh (by rw[cntC_succ,a8,ay.out]; split <;> simp)
     obtain⟨ok,bI⟩:∃ ok,(fnd s.D ((j:Int)+1)).isSome=ok:=⟨_,rfl⟩
     have bi:=Lh bI
     subst cn
     clear a8 hz co bI
     by_cases h0:J=0
     .subst h0
      have an:Hid (bW s.D ((j:Int)+1)=11):=aE
      have aN:Hid (∀ (w:World) (I:Nat->Nat),Wv base I w x s->Calls Tryz.prog 13 #[ptr x.pb,.int .u64 ((j:Int)+1)] w fun e w'=>e=.returned (.tuple #[.int .u64 11,.bool ok])/\w=w'):=Lh (fun w I h=>by
       have e:=load_any w x.pb x.ab s.D s.S ((j:Int)+1) h.bag HU.out
       rw[an.out,bi.out] at e
       exact e)
      have aM:Hid (∀ (w:World) (I:Nat->Nat),Wv base I w x s->Calls Tryz.prog 16 #[ptr x.pF,.int .u64 ((j:Int)+1)] w fun e w'=>e=.returned (.bool false)/\w=w'):=Lh (fun w I h=>by
       have e:=Fc.isopen_any x.pF x.bF x.mF s.n s.O s.P s.C ((j:Int)+1) w h.fact HU.out
       rw[aC.out] at e
       exact e)
      have ak:Hid (Sn.sIdx s.S ((j:Int)+1) = -1):=Lh (aB.out.1 rfl)
      have aj:Hid (((cntC (fS Q) (j+1):Nat):Int)=c+1):=ae
      clear aE aC aB ae a9 an
      have c8:=F.out.wv.cells.c8
      go_wp2_with fail
      refine (aN.out _ _ F.out.wv).mono ?_
      rintro e w5 ⟨rfl,rfl⟩
      clear c8 hc
      go_wp2_with fail
      refine (Wd.state_any 11 wr (by decide) (by decide)).mono ?_
      rintro e w6 ⟨rfl,rfl⟩
      have c12:=F.out.wv.cells.c12
      go_wp2_with fail
      refine (aM.out _ _ F.out.wv).mono ?_
      rintro e w6 ⟨rfl,rfl⟩
      clear c12
      have c8:=F.out.wv.cells.c8
      go_wp2_with fail
      refine (blist_any wr x.pb x.ab s.D s.S F.out.wv.bag).mono ?_
      rintro e w6 ⟨A,nn,cc,rfl,au,b6⟩
      have al:=Lh (au.later b6)
      have F:=Lh (F.out.later b6)
      clear au b6 c8
      go_wp2_with fail
      refine (sidx_any A nn cc s.S ((j:Int)+1) w6 al.out).mono ?_
      rintro e w7 ⟨rfl,b7⟩
      have F:=Lh (F.out.later b7)
      rw[ak.out]
      clear b7 al
      go_wp2_with fail
      go_roundw
      case rel=>exact⟨j+1,c+1,by omega,rfl,by go_num,Lh aj.out.symm,F⟩
      case measure=>simp[intOf]; omega
     .have an:Hid (bW s.D ((j:Int)+1)=J):=Lh (by rw[aE.out,if_neg h0])
      have aN:Hid (∀ (w:World) (I:Nat->Nat),Wv base I w x s->Calls Tryz.prog 13 #[ptr x.pb,.int .u64 ((j:Int)+1)] w fun e w'=>e=.returned (.tuple #[.int .u64 J,.bool ok])/\w=w'):=Lh (fun w I h=>by
       have e:=load_any w x.pb x.ab s.D s.S ((j:Int)+1) h.bag HU.out
       rw[an.out,bi.out] at e
       exact e)
      have aM:Hid (∀ (w:World) (I:Nat->Nat),Wv base I w x s->Calls Tryz.prog 16 #[ptr x.pF,.int .u64 ((j:Int)+1)] w fun e w'=>e=.returned (.bool true)/\w=w'):=Lh (fun w I h=>by
       have e:=Fc.isopen_any x.pF x.bF x.mF s.n s.O s.P s.C ((j:Int)+1) w h.fact HU.out
       rw[aC.out,decide_eq_true h0] at e
       exact e)
      have ak:=Lh (aB.out.2 h0)
      have aj:Hid (((cntC (fS Q) (j+1):Nat):Int)=c):=Lh (by rw[ae.out,if_neg h0]; omega)
      have ci:Hid (∀ w,Calls Tryz.prog 23 #[.int .i64 J,.int .u64 0] w fun e w'=>e=.returned (.int .u64 J)/\w=w'):=Lh (fun w=>by
       have e:=Wd.of_any J 0 w (by decide) (by decide)
       rw[show Wd.wOf J 0=J by unfold Wd.wOf; omega] at e
       exact e)
      have q2:(J == 0)=false:=by simpa using h0
      have t7:IntKind.i64.wrap J=J:=by rw[IntKind.wrap_i64]; omega
      have q3:(J != J)=false:=by simp
      clear aE aC aB ae an h0
      have c8:=F.out.wv.cells.c8
      go_wp2_with fail
      refine (aN.out _ _ F.out.wv).mono ?_
      rintro e w5 ⟨rfl,rfl⟩
      clear c8 hc
      go_wp2_with fail
      refine (ci.out _).mono ?_
      rintro e w6 ⟨rfl,rfl⟩
      have c12:=F.out.wv.cells.c12
      go_wp2_with fail
      refine (aM.out _ _ F.out.wv).mono ?_
      rintro e w6 ⟨rfl,rfl⟩
      clear c12
      have c8:=F.out.wv.cells.c8
      go_wp2_with fail
      refine (blist_any wr x.pb x.ab s.D s.S F.out.wv.bag).mono ?_
      rintro e w6 ⟨A,nn,cc,rfl,au,b6⟩
      have al:=Lh (au.later b6)
      have F:=Lh (F.out.later b6)
      clear au b6 c8
      go_wp2_with fail
      refine (sidx_any A nn cc s.S ((j:Int)+1) w6 al.out).mono ?_
      rintro e w7 ⟨rfl,b7⟩
      have F:=Lh (F.out.later b7)
      obtain⟨ix,bD⟩:∃ ix,Sn.sIdx s.S ((j:Int)+1)=ix:=⟨_,rfl⟩
      rw[bD] at ak ⊢
      have q4:decide (ix < 0)=false:=decide_eq_false (by have:=ak.out; omega)
      clear b7 al bD ak
      go_wp2_with fail
      go_roundw
      case rel=>exact⟨j+1,c,by omega,rfl,by go_num,Lh aj.out.symm,F⟩
      case measure=>simp[intOf]; omega
    .obtain rfl:j=ns:=by omega
     have q1:decide ((j:Int) < (j:Int))=false:=decide_eq_false (by omega)
     have bG:s.live=(j:Int) - c:=by rw[a0.out.live,ay.out]
     have t5:IntKind.i64.wrap ((j:Int) - c)=(j:Int) - c:=by
      have:=cntC_le (fS Q) j
      have:=ay.out
      have:=aR.out
      rw[IntKind.wrap_i64]; omega
     have q2:((j:Int) - c != (j:Int) - c)=false:=by simp
     have az:Hid (∀ w,Calls Tryz.prog 24 #[q.val] w fun e w'=>e=.returned (.bool true)/\Below w.heap.size w w'):=Lh (fun w=>by have e:=cdone_any q w; rw[a0.out.st] at e; exact e)
     have aA:Hid (∀ w,Calls Tryz.prog 25 #[q.val] w fun e w'=>e=.returned (.int .i64 0)/\Below w.heap.size w w'):=Lh (fun w=>by have e:=cerr_any q w; rw[a0.out.err] at e; exact e)
     go_wp2_with (first
      | (refine ldB rt_ct rfl _ rfl gb rfl q.cells F.out.vb ?_))
     refine (az.out _).mono ?_
     rintro e w9 ⟨rfl,b9⟩
     have F:=Lh (F.out.later b9)
     clear b9 az
     have z0:=F.out.vb.cell 0 _ rfl
     have z1:=F.out.vb.cell 1 _ rfl
     have z2:=F.out.vb.cell 2 _ rfl
     have z3:=F.out.vb.cell 3 _ rfl
     have z4:=F.out.vb.cell 4 _ rfl
     have z5:=F.out.vb.cell 5 _ rfl
     have z6:=F.out.vb.cell 6 _ rfl
     have z7:=F.out.vb.cell 7 _ rfl
     have z8:=F.out.vb.cell 8 _ rfl
     have z9:=F.out.vb.cell 9 _ rfl
     have cE:=F.out.vb.cell 10 _ rfl
     have cF:=F.out.vb.cell 11 _ rfl
     go_wp2_with fail
     refine (aA.out _).mono ?_
     rintro e a2 ⟨rfl,bw⟩
     have F:=Lh (F.out.later bw)
     clear bw aA z0 z1 z2 z3 z4 z5 z6 z7 z8 z9 cE cF
     have c15:a2.cell? ⟨x.pw,15,none⟩=some (.bool true):=(F.out.wv.cells.c15).trans (congrArg (fun b=>some (Value.bool b)) a0.out.cl)
     have c14:=F.out.wv.cells.c14
     rw[bG] at c14
     clear bG
     go_wp2_with fail
     refine (wclone_any a2 F.out.wv (by rw[a0.out.D]; simp; have:=aR.out; omega) (by have:=af.out.2.1; omega) (by rw[a0.out.O]; simp) (by rw[a0.out.P]; simp) (by have:=af.out.1; omega)).mono ?_
     rintro e cB ⟨x2,cG,rfl,h2,bB,bz⟩
     have Y:=Lh h2
     have aL:=Lh bB
     have aG:=Lh bz
     have br:=Lh F.out.wv
     have ai:=Lh F.out.bl
     clear h2 bB bz F c14 c15 t5 q2
     obtain⟨s2,bM⟩:∃ s2,ptS s 2 3 0 6=s2:=⟨_,rfl⟩
     have a3:=Lh bM
     clear bM
     have bo:Hid (∀ (w:World) (I:Nat->Nat),Wv base I w x2 s->Calls Tryz.prog 20 #[Ct.val ⟨2,tStart,none,0,0,[],0,0,0,zg,0⟩,ptr x2.pw] w (Mpost base I x2 w s2 (Ct.val ⟨2,tDone,none,0,0,[],0,0,0,zg,6⟩))):=Lh (fun w I h=>by
      have hr:startC ⟨⟨2,tStart,none,0,0,[],0,0,0,zg,0⟩,s,[]⟩=⟨⟨2,tDone,none,0,0,[],0,0,0,zg,6⟩,s2,[]⟩:=by
       unfold startC
       rw[if_pos a0.out.cl,<- a3.out]; rfl
      have e:=ct_act w (⟨2,tStart,none,0,0,[],0,0,0,zg,0⟩:Ct) (startC ⟨⟨2,tStart,none,0,0,[],0,0,0,zg,0⟩,s,[]⟩).q h 106 (by kernel_rfl) (show tStart.size<=maxLen by decide) (enters_of Tryz.func106 (by kernel_rfl) rfl _) (fun W I h2=>cstart_any W ⟨⟨2,tStart,none,0,0,[],0,0,0,zg,0⟩,s,[]⟩ h2 (by show s.ev.length<=1000; have:=af.out.1; omega))
      rw[hr] at e
      exact e)
     go_wp2_with fail
     refine (cbegin_any 2 cB).mono ?_
     rintro e cC ⟨rfl,aU⟩
     have Y:=Lh (Y.out.later aU)
     have av:Hid (Below a2.heap.size a2 cC):=Lh (aG.out.trans (aU.mono aG.out.size))
     clear aU aG
     go_wp2_with fail
     refine (bo.out _ _ Y.out).mono ?_
     rintro e a6 ⟨rfl,cH,h3,z3,l3⟩
     obtain⟨cj,hA,lA,cA⟩:=br.out.var8 av.out
     have a1:Hid (Wv base cj a6 x s):=Lh (hA.aside z3 (fun g hg e=>by
      by_cases a4:g < a2.heap.size
      .exfalso
       have h9:=aL.out g a4
       unfold dead at h9
       split at h9
       .exact e.1 h9
       .exact e.2 h9
      .exact cA g (by omega) hg))
     have Y:=Lh h3
     have aH:Hid (Below W.heap.size W a6):=Lh ((ai.out.trans (av.out.mono ai.out.size)).trans (z3.below (Nat.le_trans ai.out.size av.out.size) (fun g hg=>by
      have h8:a2.heap.size<=g:=Classical.byContradiction fun a4=>by
       have h9:=aL.out g (by omega)
       unfold dead at h9
       split at h9
       .exact hg.1 h9
       .exact hg.2 h9
      exact Nat.le_trans ai.out.size h8)))
     clear h3 z3 l3 hA lA cA av br ai bo aL
     go_upto_region 30 with (first
      | (refine stB rt_ct rfl _ _ rfl a6.heap.size rfl (Ct.cells ⟨2,tDone,none,0,0,[],0,0,0,zg,6⟩) rfl (there_alloc 82 [.int .i64 0,.string ⟨#[]⟩,.slice none 0 0,.int .i64 0,.int .u64 0,.int .u64 0,.int .i64 0,.int .i64 0,.int .u64 0,.int .u64 0,.string ⟨#[]⟩,.int .i64 0] a6) rfl (by kernel_rfl) ?_; intro aa bO bS; have HV:=Lh bO; have aw:Hid (Below a6.heap.size a6 aa):=Lh (((Below.refl _ a6).alloc (Nat.le_refl _) _).trans (bS.below (by simp) (fun k hk=>by omega))); clear bO bS))
     obtain⟨tb,bN⟩:∃ tb,a6.heap.size=tb:=⟨_,rfl⟩
     have a1:=Lh (a1.out.later aw.out)
     have Y:=Lh (Y.out.later aw.out)
     have HB:=Lh (aH.out.trans (aw.out.mono aH.out.size))
     rw[bN] at HV ⊢
     clear aH aw bN
     obtain⟨n0,ah⟩:∃ n0,s.ev.length=n0:=⟨_,rfl⟩
     have aQ:Hid (n0<=60):=Lh (by rw[<- ah]; exact af.out.1)
     have b8:Hid (∀ y:After aa,Calls Tryz.prog 27 #[ptr x2.ph] y.1 fun e w'=>∃ A c,e=.returned (.slice A (n0+1) c)/\Below y.1.heap.size y.1 w'):=Lh (fun y=>by
      have e:=wall_any y.1 (Y.out.later y.2) (by rw[<- a3.out]; show (s.ev ++ [_]).length<=1000; rw[List.length_append,ah]; have:=aQ.out; simp; omega)
      rw[show s2.ev.length=n0+1 by rw[<- a3.out]; show (s.ev ++ [_]).length=_; rw[List.length_append,ah]; rfl] at e
      exact e)
     have b4:Hid (∀ y:After aa,Calls Tryz.prog 27 #[ptr x.ph] y.1 fun e w'=>∃ A c,e=.returned (.slice A n0 c)/\Below y.1.heap.size y.1 w'):=Lh (fun y=>by
      have e:=wall_any y.1 (a1.out.later y.2) (by rw[ah]; have:=aQ.out; omega)
      rw[ah] at e
      exact e)
     clear ah
     go_wp2_with fail
     have u:Hid (aa.drew.cell? ⟨x2.pw,13,none⟩=some (ptr x2.ph)/\aa.drew.cell? ⟨x.pw,13,none⟩=some (ptr x.ph)):=Lh ⟨(Y.out.later (Below.refl _ _).drew).cells.c13,(a1.out.later (Below.refl _ _).drew).cells.c13⟩
     refine rgS 12 (fun w'=>w'.cell? ⟨x2.pw,13,none⟩=some (ptr x2.ph)/\w'.cell? ⟨x.pw,13,none⟩=some (ptr x.ph)) (by kernel_rfl) (by kernel_rfl) ?_
     intro ao
     have G:=Lh ao
     clear ao
     refine rq 0 G.out u.out rfl ?_ (hv:=fun w' hw=>by (skip; go_simp; exact rfl))
     refine rq 1 G.out u.out rfl ?_ (hv:=fun w' hw=>by (skip; go_simp; exact rfl))
     refine rq 2 G.out u.out rfl ?_ (hv:=fun w' hw=>by (skip; go_simp; exact rfl))
     go_simp
     refine rq 3 G.out u.out rfl ?_ (hv:=fun w' hw=>by (have c13:=hw.1; go_simp; exact rfl))
     refine rq 5 G.out u.out rfl ?_ (hv:=fun w' hw=>by (skip; go_simp; exact rfl))
     refine rq 6 G.out u.out rfl ?_ (hv:=fun w' hw=>by (skip; go_simp; exact rfl))
     go_simp
     refine rq 7 G.out u.out rfl ?_ (hv:=fun w' hw=>by (skip; go_simp; exact rfl))
     refine rq 8 G.out u.out rfl ?_ (hv:=fun w' hw=>by (have c13:=hw.2; go_simp; exact rfl))
     go_simp
     refine reg_stable_zs [10,11] [4,9] (fun w w'=>Below w.heap.size w w') (tA (n0+1) n0) (fun _ _ _ _=>True) ?_ ?_ ?_ ?_ ?_ ?_ ?_ (fun _=>Below.refl _ _) (fun _ _ _ h1 h2=>h1.trans (h2.mono h1.size)) (tA_mono (n0+1) n0) (fun w' h=>⟨(h.cell (p:=⟨x2.pw,13,none⟩) (Lw.ltH u.out.1)).trans u.out.1,(h.cell (p:=⟨x.pw,13,none⟩) (Lw.ltH u.out.2)).trans u.out.2⟩) ?_ ?_
     .kernel_rfl
     .kernel_rfl
     .kernel_rfl
     .kernel_rfl
     .kernel_rfl
     .kernel_rfl
     .kernel_rfl
     .refine⟨?_,?_,trivial⟩
      .intro a' w' val hb a9 hd cm aZ
       have cI:a'.tmps[150]?.getD undef=ptr x2.ph:=(a9 150 (by kernel_rfl)).trans (by kernel_rfl)
       clear a9 hd aZ
       refine⟨_,rfl,?_⟩
       unfold Oper.wp
       go_simp
       refine (b8.out ⟨w',(Below.refl _ _).drew.trans hb⟩).mono ?_
       rintro e w2 ⟨A,c,rfl,aY⟩
       exact⟨_,rfl,⟨A,c,rfl⟩,aY⟩
      .intro a' w' val hb a9 hd cm aZ
       have cJ:a'.tmps[155]?.getD undef=ptr x.ph:=(a9 155 (by kernel_rfl)).trans (by kernel_rfl)
       clear a9 hd aZ
       refine⟨_,rfl,?_⟩
       unfold Oper.wp
       go_simp
       refine (b4.out ⟨w',(Below.refl _ _).drew.trans hb⟩).mono ?_
       rintro e w2 ⟨A,c,rfl,aY⟩
       exact⟨_,rfl,⟨A,c,rfl⟩,aY⟩
     intro val a7 hE hD bA
     obtain⟨⟨A1,c1,e4⟩,⟨A0,c0,e9⟩,-⟩:=hE
     have aq:Below aa.heap.size aa a7:=(Below.refl _ _).drew.trans bA
     have a1:=Lh (a1.out.later aq)
     have Y:=Lh (Y.out.later aq)
     have HV:=Lh (HV.out.later aq)
     have HB:=Lh (HB.out.trans (aq.mono HB.out.size))
     clear hD bA aq b4 b8
     simp only[puts,dstOf,e4,e9]
     clear u
     go_simp
     have u:Hid (a7.cell? ⟨x2.pw,13,none⟩=some (ptr x2.ph)/\a7.cell? ⟨x.pw,13,none⟩=some (ptr x.ph)):=Lh ⟨Y.out.cells.c13,a1.out.cells.c13⟩
     refine rO 10 rfl (by kernel_rfl) (by kernel_rfl) ?_
     unfold Oper.wp
     go_simp
     refine⟨u.out,?_⟩
     refine rO 11 rfl (by kernel_rfl) (by kernel_rfl) ?_
     unfold Oper.wp
     go_simp
     refine⟨u.out,?_⟩
     refine rgD (by kernel_rfl) ?_
     clear u G e4 e9
     have t5:IntKind.i64.wrap ((n0:Int)+1)=(n0:Int)+1:=by have:=aQ.out; rw[IntKind.wrap_i64]; omega
     have c15:a7.cell? ⟨x2.pw,15,none⟩=some (.bool true):=(Y.out.cells.c15).trans (congrArg (fun b=>some (Value.bool b)) (by rw[<- a3.out]; exact a0.out.cl))
     have c14:a7.cell? ⟨x2.pw,14,none⟩=some (.int .i64 s.live):=(Y.out.cells.c14).trans (by rw[<- a3.out]; rfl)
     -- LAST
     obtain⟨m,hm⟩:∃ m,s.C.length=m:=⟨_,rfl⟩
     have ct:m < 1000:=by rw[<- hm,a0.out.C]; unfold clC; rw[List.length_map]; have:=List.length_filter_le (fun j=>fS Q j == 0) (List.range j); rw[List.length_range] at this; have:=aR.out; omega
     have aj:Hid (∀ (w:World) (I:Nat->Nat),Wv base I w x2 s2->Calls Tryz.prog 28 #[ptr x2.pF] w fun e w'=>e=.returned (.int .u64 m)/\w=w'):=Lh (fun w I h=>by
      have q:=Fc.closed_any x2.pF x2.bF x2.mF s2.n s2.O s2.P s2.C w h.fact (by rw[<- a3.out]; show s.C.length < 1000; omega)
      rw[show s2.C.length=m by rw[<- a3.out]; exact hm] at q
      exact q)
     have ae:Hid (∀ (w:World) (I:Nat->Nat),Wv base I w x s->Calls Tryz.prog 28 #[ptr x.pF] w fun e w'=>e=.returned (.int .u64 m)/\w=w'):=Lh (fun w I h=>by
      have q:=Fc.closed_any x.pF x.bF x.mF s.n s.O s.P s.C w h.fact (by omega)
      rw[hm] at q
      exact q)
     obtain⟨r2,aF⟩:∃ r2:Ct,(⟨2,tDone,none,0,0,[],0,0,0,zg,6⟩:Ct)=r2:=⟨_,rfl⟩
     have az:Hid (∀ w:World,Calls Tryz.prog 24 #[r2.val] w fun e w'=>e=.returned (.bool true)/\Below w.heap.size w w'):=Lh (fun w=>by
      have e:=cdone_any r2 w
      rw[show (r2.st.toList == [100,111,110,101])=true from by rw[<- aF]; kernel_rfl] at e
      exact e)
     have aA:Hid (∀ w:World,Calls Tryz.prog 25 #[r2.val] w fun e w'=>e=.returned (.int .i64 6)/\Below w.heap.size w w'):=Lh (fun w=>by
      have e:=cerr_any r2 w
      rw[show r2.err=6 from by rw[<- aF]] at e
      exact e)
     have HV:Hid (Vb a7 tb 12 r2.cells):=Lh (by rw[<- aF]; exact HV.out)
     have ca:Hid (s2.closed=true):=Lh (by rw[<- a3.out]; exact a0.out.cl)
     have cg:Hid (s2.live=s.live):=Lh (by rw[<- a3.out]; rfl)
     clear hm ct aF
     go_wp2_with fail
     have a1:=Lh (a1.out.later (Below.refl _ _).drew)
     have Y:=Lh (Y.out.later (Below.refl _ _).drew)
     have HV:=Lh (HV.out.later (Below.refl _ _).drew)
     have HB:=Lh (HB.out.trans ((Below.refl _ a7).drew.mono HB.out.size))
     generalize bR:a7.drew=w8 at *
     have u:Hid (Below w8.heap.size w8 w8):=Lh (Below.refl _ _)
     refine rgS 46 (fun w'=>Below w8.heap.size w8 w') (by kernel_rfl) (by kernel_rfl) ?_
     intro ao
     have G:=Lh ao
     clear ao
     rw[bR]
     clear bR
     refine rl 0 G.out u.out rfl ?_
     apply Exists.intro
     refine⟨fun w' hw=>exec_load_b rt_ct _ _ _ rfl rfl (HV.out.later hw),?_⟩
     refine rO 1 rfl (by kernel_rfl) rfl ?_
     unfold Oper.wp
     go_simp
     refine (az.out _).mono ?_
     rintro e9 a2 ⟨rfl,b9⟩
     have u:=Lh (u.out.trans (b9.mono u.out.size))
     clear b9
     refine⟨u.out,?_⟩
     refine rq 2 G.out u.out rfl ?_
     refine rgL 3 G.out rfl (by kernel_rfl) (by decide) (fun _ _ _ _ h=>h) u.out (wY (g:=2) (p:=true) (d:=159) rfl (by kernel_rfl) (at_eq ((Nat.lt_of_lt_of_eq (m:=202) (by decide) rfl)))) ?_
     apply Exists.intro
     refine⟨fun w' hw=>exec_load_b rt_ct _ _ _ rfl rfl (HV.out.later hw),?_⟩
     refine rO 4 rfl (by kernel_rfl) (wY (g:=2) (p:=true) (d:=159) rfl (by kernel_rfl) (at_ne (by decide) (at_eq ((Nat.lt_of_lt_of_eq (m:=202) (by decide) rfl))))) ?_
     unfold Oper.wp
     go_simp
     refine (aA.out _).mono ?_
     rintro e9 a2 ⟨rfl,b9⟩
     have u:=Lh (u.out.trans (b9.mono u.out.size))
     clear b9
     refine⟨u.out,?_⟩
     refine rgL 5 G.out rfl (by kernel_rfl) (by decide) (fun _ _ _ _ h=>h) u.out (wY (g:=2) (p:=true) (d:=159) rfl (by kernel_rfl) (rfl)) ?_
     apply Exists.intro
     refine⟨fun w' hw=>by (go_simp; exact rfl),?_⟩
     refine rq 6 G.out u.out rfl ?_
     refine rq 7 G.out u.out rfl ?_
     go_simp
     refine rgL 8 G.out rfl (by kernel_rfl) (by decide) (fun _ _ _ _ h=>h) u.out (wY (g:=7) (p:=true) (d:=164) rfl (by kernel_rfl) (rfl)) ?_
     apply Exists.intro
     refine⟨fun w' hw=>by (go_simp; exact rfl),?_⟩
     refine rgL 9 G.out rfl (by kernel_rfl) (by decide) (fun _ _ _ _ h=>h) u.out (wY (g:=7) (p:=true) (d:=164) rfl (by kernel_rfl) (at_ne (by decide) (rfl))) ?_
     apply Exists.intro
     refine⟨fun w' hw=>by (go_simp; exact rfl),?_⟩
     refine rgL 10 G.out rfl (by kernel_rfl) (by decide) (fun _ _ _ _ h=>h) u.out (wY (g:=7) (p:=true) (d:=164) rfl (by kernel_rfl) (at_ne (by decide) (at_ne (by decide) (rfl)))) ?_
     apply Exists.intro
     refine⟨fun w' hw=>by (go_simp; exact rfl),?_⟩
     go_simp
     refine rgL 11 G.out rfl (by kernel_rfl) (by decide) (fun _ _ _ _ h=>h) u.out (wY (g:=7) (p:=true) (d:=164) rfl (by kernel_rfl) (rfl)) ?_
     apply Exists.intro
     refine⟨fun w' hw=>by (go_simp; exact rfl),?_⟩
     refine rgL 12 G.out rfl (by kernel_rfl) (by decide) (fun _ _ _ _ h=>h) u.out (wY (g:=7) (p:=true) (d:=164) rfl (by kernel_rfl) (at_ne (by decide) (rfl))) ?_
     apply Exists.intro
     refine⟨fun w' hw=>by (go_simp; exact rfl),?_⟩
     refine rgL 13 G.out rfl (by kernel_rfl) (by decide) (fun _ _ _ _ h=>h) u.out (wY (g:=7) (p:=true) (d:=164) rfl (by kernel_rfl) (at_ne (by decide) (at_ne (by decide) (rfl)))) ?_
     apply Exists.intro
     refine⟨fun w' hw=>by (go_simp; exact rfl),?_⟩
     go_simp
     refine rq 14 G.out u.out rfl ?_
     refine rq 15 G.out u.out rfl ?_
     refine rgL 16 G.out rfl (by kernel_rfl) (by decide) (fun _ _ _ _ h=>h) u.out (wY (g:=15) (p:=true) (d:=172) rfl (by kernel_rfl) (at_eq (sz_put ((Nat.lt_of_lt_of_eq (m:=202) (by decide) rfl))))) ?_
     apply Exists.intro
     refine⟨fun w' hw=>by (go_simp; exact rfl),?_⟩
     go_simp
     refine rgL 17 G.out rfl (by kernel_rfl) (by decide) (fun _ _ _ _ h=>h) u.out (wY (g:=15) (p:=true) (d:=172) rfl (by kernel_rfl) (rfl)) ?_
     apply Exists.intro
     refine⟨fun w' hw=>by (go_simp; exact rfl),?_⟩
     refine rgL 18 G.out rfl (by kernel_rfl) (by decide) (fun _ _ _ _ h=>h) u.out (wY (g:=15) (p:=true) (d:=172) rfl (by kernel_rfl) (at_ne (by decide) (rfl))) ?_
     apply Exists.intro
     refine⟨fun w' hw=>by (go_simp; exact rfl),?_⟩
     refine rgL 19 G.out rfl (by kernel_rfl) (by decide) (fun _ _ _ _ h=>h) u.out (wY (g:=15) (p:=true) (d:=172) rfl (by kernel_rfl) (at_ne (by decide) (at_ne (by decide) (rfl)))) ?_
     apply Exists.intro
     refine⟨fun w' hw=>by (have c14:_=some (Value.int .i64 s.live):=((Y.out.later hw).cells.c14).trans (by rw[cg.out]); go_simp; exact rfl),?_⟩
     go_simp
     refine rgL 20 G.out rfl (by kernel_rfl) (by decide) (fun _ _ _ _ h=>h) u.out (wY (g:=15) (p:=true) (d:=172) rfl (by kernel_rfl) (rfl)) ?_
     apply Exists.intro
     refine⟨fun w' hw=>by (go_simp; exact rfl),?_⟩
     refine rgL 21 G.out rfl (by kernel_rfl) (by decide) (fun _ _ _ _ h=>h) u.out (wY (g:=15) (p:=true) (d:=172) rfl (by kernel_rfl) (at_ne (by decide) (rfl))) ?_
     apply Exists.intro
     refine⟨fun w' hw=>by (go_simp; exact rfl),?_⟩
     refine rgL 22 G.out rfl (by kernel_rfl) (by decide) (fun _ _ _ _ h=>h) u.out (wY (g:=15) (p:=true) (d:=172) rfl (by kernel_rfl) (at_ne (by decide) (at_ne (by decide) (rfl)))) ?_
     apply Exists.intro
     refine⟨fun w' hw=>by (go_simp; exact rfl),?_⟩
     go_simp
     refine rgL 23 G.out rfl (by kernel_rfl) (by decide) (fun _ _ _ _ h=>h) u.out (wY (g:=15) (p:=true) (d:=172) rfl (by kernel_rfl) (rfl)) ?_
     apply Exists.intro
     refine⟨fun w' hw=>by (have c14:=(a1.out.later hw).cells.c14; go_simp; exact rfl),?_⟩
     refine rgL 24 G.out rfl (by kernel_rfl) (by decide) (fun _ _ _ _ h=>h) u.out (wY (g:=15) (p:=true) (d:=172) rfl (by kernel_rfl) (at_ne (by decide) (rfl))) ?_
     apply Exists.intro
     refine⟨fun w' hw=>by (go_simp; exact rfl),?_⟩
     refine rq 25 G.out u.out rfl ?_
     go_simp
     refine rq 26 G.out u.out rfl ?_
     refine rgL 27 G.out rfl (by kernel_rfl) (by decide) (fun _ _ _ _ h=>h) u.out (wY (g:=26) (p:=true) (d:=183) rfl (by kernel_rfl) (at_eq ((Nat.lt_of_lt_of_eq (m:=202) (by decide) rfl)))) ?_
     apply Exists.intro
     refine⟨fun w' hw=>by (go_simp; exact rfl),?_⟩
     refine rgL 28 G.out rfl (by kernel_rfl) (by decide) (fun _ _ _ _ h=>h) u.out (wY (g:=26) (p:=true) (d:=183) rfl (by kernel_rfl) (at_ne (by decide) (at_eq ((Nat.lt_of_lt_of_eq (m:=202) (by decide) rfl))))) ?_
     apply Exists.intro
     refine⟨fun w' hw=>by (go_simp; exact rfl),?_⟩
     go_simp
     refine rgL 29 G.out rfl (by kernel_rfl) (by decide) (fun _ _ _ _ h=>h) u.out (wY (g:=26) (p:=true) (d:=183) rfl (by kernel_rfl) (rfl)) ?_
     apply Exists.intro
     refine⟨fun w' hw=>by (go_simp; exact rfl),?_⟩
     refine rgL 30 G.out rfl (by kernel_rfl) (by decide) (fun _ _ _ _ h=>h) u.out (wY (g:=26) (p:=true) (d:=183) rfl (by kernel_rfl) (at_ne (by decide) (rfl))) ?_
     apply Exists.intro
     refine⟨fun w' hw=>by (have c15:_=some (Value.bool true):=((Y.out.later hw).cells.c15).trans (by rw[ca.out]); go_simp; exact rfl),?_⟩
     refine rq 31 G.out u.out rfl ?_
     go_simp
     refine rq 32 G.out u.out rfl ?_
     refine rgL 33 G.out rfl (by kernel_rfl) (by decide) (fun _ _ _ _ h=>h) u.out (wY (g:=32) (p:=true) (d:=189) rfl (by kernel_rfl) (at_eq ((Nat.lt_of_lt_of_eq (m:=202) (by decide) rfl)))) ?_
     apply Exists.intro
     refine⟨fun w' hw=>by (go_simp; exact rfl),?_⟩
     refine rgL 34 G.out rfl (by kernel_rfl) (by decide) (fun _ _ _ _ h=>h) u.out (wY (g:=32) (p:=true) (d:=189) rfl (by kernel_rfl) (at_ne (by decide) (at_eq ((Nat.lt_of_lt_of_eq (m:=202) (by decide) rfl))))) ?_
     apply Exists.intro
     refine⟨fun w' hw=>by (go_simp; exact rfl),?_⟩
     go_simp
     refine rgL 35 G.out rfl (by kernel_rfl) (by decide) (fun _ _ _ _ h=>h) u.out (wY (g:=32) (p:=true) (d:=189) rfl (by kernel_rfl) (rfl)) ?_
     apply Exists.intro
     refine⟨fun w' hw=>by (go_simp; exact rfl),?_⟩
     refine rgL 36 G.out rfl (by kernel_rfl) (by decide) (fun _ _ _ _ h=>h) u.out (wY (g:=32) (p:=true) (d:=189) rfl (by kernel_rfl) (at_ne (by decide) (rfl))) ?_
     apply Exists.intro
     refine⟨fun w' hw=>by (have c12:=(Y.out.later hw).cells.c12; go_simp; exact rfl),?_⟩
     refine rgL 38 G.out rfl (by kernel_rfl) (by decide) (fun _ _ _ _ h=>h) u.out (wY (g:=32) (p:=true) (d:=189) rfl (by kernel_rfl) (at_ne (by decide) (at_ne (by decide) (rfl)))) ?_
     apply Exists.intro
     refine⟨fun w' hw=>by (go_simp; exact rfl),?_⟩
     go_simp
     refine rgL 39 G.out rfl (by kernel_rfl) (by decide) (fun _ _ _ _ h=>h) u.out (wY (g:=32) (p:=true) (d:=189) rfl (by kernel_rfl) (rfl)) ?_
     apply Exists.intro
     refine⟨fun w' hw=>by (go_simp; exact rfl),?_⟩
     refine rgL 40 G.out rfl (by kernel_rfl) (by decide) (fun _ _ _ _ h=>h) u.out (wY (g:=32) (p:=true) (d:=189) rfl (by kernel_rfl) (at_ne (by decide) (rfl))) ?_
     apply Exists.intro
     refine⟨fun w' hw=>by (go_simp; exact rfl),?_⟩
     refine rgL 41 G.out rfl (by kernel_rfl) (by decide) (fun _ _ _ _ h=>h) u.out (wY (g:=32) (p:=true) (d:=189) rfl (by kernel_rfl) (at_ne (by decide) (at_ne (by decide) (rfl)))) ?_
     apply Exists.intro
     refine⟨fun w' hw=>by (have c12:=(a1.out.later hw).cells.c12; go_simp; exact rfl),?_⟩
     go_simp
     refine rO 37 rfl (by kernel_rfl) (wY (g:=32) (p:=true) (d:=189) rfl (by kernel_rfl) (rfl)) ?_
     unfold Oper.wp
     go_simp
     refine (aj.out _ _ (Y.out.later u.out)).mono ?_
     rintro e9 a2 ⟨rfl,rfl⟩
     refine⟨u.out,?_⟩
     refine rO 42 rfl (by kernel_rfl) (wY (g:=32) (p:=true) (d:=189) rfl (by kernel_rfl) (rfl)) ?_
     unfold Oper.wp
     go_simp
     refine (ae.out _ _ (a1.out.later u.out)).mono ?_
     rintro e9 a2 ⟨rfl,rfl⟩
     refine⟨u.out,?_⟩
     refine rgL 43 G.out rfl (by kernel_rfl) (by decide) (fun _ _ _ _ h=>h) u.out (wY (g:=32) (p:=true) (d:=189) rfl (by kernel_rfl) (rfl)) ?_
     apply Exists.intro
     refine⟨fun w' hw=>by (go_simp; exact rfl),?_⟩
     refine rq 44 G.out u.out rfl ?_
     refine rq 45 G.out u.out rfl ?_
     go_simp
     refine rgD (by kernel_rfl) ?_
     have HB:=Lh (HB.out.trans (u.out.mono HB.out.size))
     clear u G
     go_wp2_with fail
     go_ret
     exact⟨rfl,HB.out⟩
end Go.Proofs.YtoiklelghfckgaaGreatDoor.Wo
end
