/- A part of the claim: the texts WorldC WorldD Bounds. -/
import Derived.Test.YtoiklelghfckgaaGreatDoorZGWorld
import Derived.Test.YtoiklelghfckgaaGreatDoorZGLease
import Derived.Test.YtoiklelghfckgaaGreatDoorZGSlots
import Derived.Test.YtoiklelghfckgaaGreatDoorZGLocal
set_option maxRecDepth 100000
set_option linter.unusedVariables false
namespace Go.Proofs.YtoiklelghfckgaaGreatDoor.Wo
open Go Go.ChangeShapes Go.WideShapes Go.ChangeAt Go.RowKit Go.Maps Rw Hi Mt Ba
open Cn (Cf cfE)
def entD (D:List (Int × Ex)) (id st now:Int):List (Int × Ex):=if eE D id st=0 then ins D id ⟨Wd.wOf st 0,now,now,now⟩ else D
def pubS (D:List (Int × Ex)) (S:List Int) (id:Int):List Int:=if (fnd D id).isSome then Sn.sWith S id else S
def unlS (D:List (Int × Ex)) (S:List Int) (id:Int):List Int:=if (fnd D id).isSome then Sn.sWithout S id else S
def opnN (O:List Bool) (n:Nat):Nat:=if (Fc.nx O).1 then n+1 else n
def opnI (O:List Bool) (n:Nat):Int:=if (Fc.nx O).1 then (n:Int)+1 else 0
def clsC (n:Nat) (C:List Int) (id:Int):List Int:=if Fc.kn n C id 10=0 then C ++ [id] else C
def mrkN (L:List (Int × Le.Ls)) (N:List Int) (id th:Int):List Int:=if Le.holds L id th=true then N.filter (· != id) ++ [id] else N
def grwV (live max:Int):Int:=if live < max then live+1 else live
def shrV (live:Int):Int:=if 0 < live then live - 1 else live
theorem Wc.to {w:World} {x u:Wp} {s z:Ws} (h:Wc w x s) (F:u.pw=x.pw) (G:u.pb=x.pb) (I:u.pl=x.pl) (J:u.ps=x.ps) (Q:u.bk=x.bk) (W:u.pF=x.pF) (Y:u.ph=x.ph) (f1:z.conf=s.conf) (f2:z.now=s.now) (f3:z.live=s.live) (f4:z.closed=s.closed):Wc w u z:=by
 obtain ⟨c0,c1,c2,c3,c4,c5,c6,c7,c8,c9,c10,c11,c12,c13,c14,c15,cf⟩:=h
 refine ⟨?_,?_,?_,?_,?_,?_,?_,?_,?_,?_,?_,?_,?_,?_,?_,?_,?_⟩ <;> simp only [F,G,I,J,Q,W,Y,f1,f2,f3,f4] <;> assumption
theorem Wo.recol {base:Nat} {col col':Nat→Nat} {w:World} {x:Wp} {s:Ws} (h:Wo base col w x s) (u:∀ g,g < w.heap.size→col' g=col g) (I:∀ g,col' g≠0→base≤g):Wo base col' w x s:=by
 obtain ⟨k1,k2,k3,J,Q⟩:=h.kb
 obtain ⟨W,Y,l3,l4,l5⟩:=h.book.lt
 refine ⟨h.cells,h.bag.mono (fun g z hc=>(u g z).trans hc) (fun g z hc=>⟨(u g z).trans hc.1,hc.2⟩) (fun g G F=>by have:=F.1; omega),h.loc.shun (fun g z=>?_),h.slots,h.book,h.fact,h.hist,(u _ h.loc.lt).trans h.kl,
  ⟨(u _ h.slots.lt).trans h.ks.1,fun g z=>(u _ (h.slots.rowlt g z).2).trans (h.ks.2 g z)⟩,⟨(u _ W).trans k1,(u _ Y).trans k2,(u _ l3).trans k3,(u _ l4).trans J,(u _ l5).trans Q⟩,
  fun g G F=>(u _ (by have:=h.fact.in_; omega)).trans (h.kf g G F),⟨(u _ h.hist.lt).trans h.kh.1,fun g z=>(u _ (h.hist.row g z).2).trans (h.kh.2 g z)⟩,(u _ h.cells.lt).trans h.kw,I⟩
 by_cases hs:g < w.heap.size
 ·rw [u g hs] at z; exact .inl z
 ·exact .inr (by omega)
def Wv (base:Nat) (col:Nat→Nat) (w:World) (x:Wp) (s:Ws):Prop:=∃ r q,Wo base col w { x with rs:=r,rh:=q } s ∧ ∀ g,col g≠0→g < w.heap.size
def El (w:World) (col col':Nat→Nat):Prop:=∀ g,g < w.heap.size→col' g=col g
def more (w w':World) (col:Nat→Nat) (i g:Nat):Nat:=if g < w.heap.size then col g else if g < w'.heap.size then i else 0
abbrev Fw (col:Nat→Nat) (w w':World):Prop:=Fz (fun g=>col g≠0∧col g≠8) w w'
section
variable {base:Nat} {col:Nat→Nat} {w w':World} {x:Wp} {s:Ws} {i:Nat}
theorem El.refl (w:World) (col:Nat→Nat):El w col col:=fun _ _=>rfl
theorem El.trans {c1 c2 c3:Nat→Nat} (h:El w c1 c2) (u:El w' c2 c3) (F:w.heap.size≤w'.heap.size):El w c1 c3:=fun g z=>(u g (by omega)).trans (h g z)
theorem more_el:El w col (more w w' col i):=fun g h=>if_pos h
theorem more_new {g:Nat} (u:w.heap.size≤g) (h:g < w'.heap.size):more w w' col i g=i:=by unfold more; rw [if_neg (by omega),if_pos h]
theorem more_lt {g:Nat} (u:w.heap.size≤w'.heap.size) (h:more w w' col i g≠0):g < w'.heap.size:=by
 unfold more at h
 split at h
 ·omega
 ·split at h
  ·assumption
  ·exact absurd rfl h
theorem more_lo {g:Nat} (z:base≤w.heap.size) (u:∀ g,col g≠0→base≤g) (h:more w w' col i g≠0):base≤g:=by
 unfold more at h
 split at h
 ·exact u g h
 ·omega
theorem fw_of (u:i≠0∧i≠8) (h:Fz (fun g=>col g=i) w w'):Fw col w w':=h.mono fun g _ z=>by omega
theorem fz_fr {p:Nat} {r:Option Nat} (h:Fr (some p) r w w') (u:col p=i) (z:∀ g,r=some g→col g=i):Fz (fun g=>col g=i) w w':=
 ⟨h.os,h.tape,h.output,h.size,fun k hk hc=>h.block k hk (fun e=>by injection e with e; subst e; exact hc u) (fun e=>hc (z k e.symm))⟩
theorem Wo.base_le (h:Wo base col w x s):base≤w.heap.size:=by
 have u:=h.lo x.pw (by have:=h.kw; omega)
 have:=h.cells.lt
 omega
theorem Wv.base_le (h:Wv base col w x s):base≤w.heap.size:=by obtain ⟨r,q,h,_⟩:=h; exact h.base_le
theorem Wv.hi (h:Wv base col w x s):∀ g,col g≠0→g < w.heap.size:=by obtain ⟨r,q,_,h⟩:=h; exact h
theorem Wv.lo (h:Wv base col w x s):∀ g,col g≠0→base≤g:=by obtain ⟨r,q,h,_⟩:=h; exact h.lo
theorem Wv.cells (h:Wv base col w x s):Wc w x s:=by obtain ⟨r,q,h,_⟩:=h; exact ⟨h.cells.c0,h.cells.c1,h.cells.c2,h.cells.c3,h.cells.c4,h.cells.c5,h.cells.c6,h.cells.c7,h.cells.c8,h.cells.c9,h.cells.c10,h.cells.c11,h.cells.c12,h.cells.c13,h.cells.c14,h.cells.c15,h.cells.fz⟩
theorem Wv.bag (h:Wv base col w x s):Bx (fun g=>col g=1) (fun g=>col g=0∧base≤g) w x.pb x.ab s.D s.S:=by obtain ⟨r,q,h,_⟩:=h; exact h.bag
theorem Wv.book (h:Wv base col w x s):Le.Bk w x.bk s.leak s.L s.M s.T:=by obtain ⟨r,q,h,_⟩:=h; exact h.book
theorem Wv.fact (h:Wv base col w x s):Fc.Fa w x.bF x.mF x.pF s.O s.P s.n s.C:=by obtain ⟨r,q,h,_⟩:=h; exact h.fact
theorem Wv.loc (h:Wv base col w x s):Lc.Lo (fun g=>(col g≠0∧col g≠2)∨g < base) w base x.pl s.loc:=by obtain ⟨r,q,h,_⟩:=h; exact h.loc
theorem Wv.slots (h:Wv base col w x s):∃ r,St.Ss w base x.ps r s.sl:=by obtain ⟨r,q,h,_⟩:=h; exact ⟨r,h.slots⟩
theorem Wv.hist (h:Wv base col w x s):∃ r,Hi.Hs w base x.ph r s.step s.ev:=by obtain ⟨r,q,h,_⟩:=h; exact ⟨q,h.hist⟩
theorem Wv.kw (h:Wv base col w x s):col x.pw=7:=by obtain ⟨r,q,h,_⟩:=h; exact h.kw
theorem Wv.later (h:Wv base col w x s) (u:Below w.heap.size w w'):Wv base col w' x s:=by
 obtain ⟨r,q,h,hi⟩:=h
 exact ⟨r,q,h.later u,fun g z=>Nat.lt_of_lt_of_le (hi g z) u.size⟩
theorem Wv.aside {E:Nat→Prop} (h:Wv base col w x s) (z:Fz E w w') (F:∀ g,g < w.heap.size→E g→col g=8):Wv base col w' x s:=by
 obtain ⟨r,q,h,hi⟩:=h
 have u:Fz (fun g=>col g=8) w w':=z.mono F
 exact ⟨r,q,⟨h.cells_aside u (by decide),h.bag_aside u (by decide) (by decide),h.loc_aside u (by decide) (by decide),h.slots_aside u (by decide),h.book_aside u (by decide),h.fact_aside u (by decide),h.hist_aside u (by decide),h.kl,h.ks,h.kb,h.kf,h.kh,h.kw,h.lo⟩,fun g G=>Nat.lt_of_lt_of_le (hi g G) z.size⟩
theorem Wv.bagT {I R':Nat→Prop} {J:List (Int × Ex)} {Q:List Int} (h:Wv base col w x s) (hb:Bx I R' w' x.pb x.ab J Q) (hz:Fz (fun g=>col g=1) w w') (hc:∀ g,g < w.heap.size→I g→col g=1) (hr:∀ g,g < w.heap.size→R' g→col g=0∧base≤g) :
  ∃ col',Wv base col' w' x { s with D:=J,S:=Q } ∧ Fw col w w'∧El w col col':=by
 obtain ⟨r,q,h,hi⟩:=h
 classical
 have hs:=hz.size
 have a1:=h.base_le
 let col':Nat→Nat:=fun g=>if g < w.heap.size then col g else if g < w'.heap.size∧I g then 1 else 0
 have Y:∀ g,g < w.heap.size→col' g=col g:=fun g u=>if_pos u
 have a0:∀ g,col' g≠0→base≤g:=fun g u=>by
  simp only [col'] at u
  split at u
  ·exact h.lo g u
  ·omega
 have z:=h.recol Y a0
 have G:Fz (fun g=>col' g=1) w w':=hz.mono fun g u e=>(Y g u).trans e
 have hn:Bx (fun g=>col' g=1) (fun g=>col' g=0∧base≤g) w' x.pb x.ab J Q:=hb.mono (fun g u hC=>by
   simp only [col']
   split
   ·next F=>exact hc g F hC
   ·rw [if_pos ⟨u,hC⟩]) (fun g u W=>by
   refine ⟨?_,?_⟩
   ·simp only [col']
    split
    ·next F=>exact (hr g F W).1
    ·rw [if_neg (fun e=>hb.cr g e.2 W)]
   ·by_cases F:g < w.heap.size
    ·exact (hr g F W).2
    ·omega) (fun g F h4=>by have:=h4.1; omega)
 exact ⟨col',⟨r,q,⟨(z.cells_aside G (by decide)).to rfl rfl rfl rfl rfl rfl rfl rfl rfl rfl rfl,hn,z.loc_aside G (by decide) (by decide),z.slots_aside G (by decide),z.book_aside G (by decide),z.fact_aside G (by decide),z.hist_aside G (by decide),z.kl,z.ks,z.kb,z.kf,z.kh,z.kw,z.lo⟩,fun g u=>by
   simp only [col'] at u
   split at u
   ·omega
   ·split at u
    ·next F=>exact F.1
    ·exact absurd rfl u⟩,fw_of (by decide) hz,Y⟩
theorem Wv.bookT {F:List (Int × Le.Ls)} {G:List (Int × Bool)} {I:List (Int × Int)} {f g:Option Nat} (h:Wv base col w x s) (Q:Le.Bk w' x.bk s.leak F G I) (z:Fr f g w w') (J:(f=some x.bk.a∧g=some x.bk.m)∨(f=some x.bk.b∧g=none)):Wv base col w' x { s with L:=F,M:=G,T:=I } ∧ Fw col w w':=by
 obtain ⟨r,q,h,hi⟩:=h
 obtain ⟨k1,k2,k3,k4,Y⟩:=h.kb
 have u:Fz (fun g=>col g=4) w w':=⟨z.os,z.tape,z.output,z.size,fun k hk hc=>z.block k hk (fun e=>by
   rcases J with ⟨rfl,_⟩ | ⟨rfl,_⟩ <;> injection e with e <;> subst e <;> exact hc (by assumption)) (fun e=>by
   rcases J with ⟨_,rfl⟩ | ⟨_,rfl⟩
   ·injection e with e; subst e; exact hc Y
   ·cases e)⟩
 exact ⟨⟨r,q,⟨(h.cells_aside u (by decide)).to rfl rfl rfl rfl rfl rfl rfl rfl rfl rfl rfl,h.bag_aside u (by decide) (by decide),h.loc_aside u (by decide) (by decide),h.slots_aside u (by decide),Q,h.fact_aside u (by decide),h.hist_aside u (by decide),h.kl,h.ks,h.kb,h.kf,h.kh,h.kw,h.lo⟩,fun g W=>Nat.lt_of_lt_of_le (hi g W) u.size⟩,fw_of (by decide) u⟩
theorem Wv.factT {I J:List Bool} {n':Nat} {G:List Int} (h:Wv base col w x s) (Q:Fc.Fa w' x.bF x.mF x.pF I J n' G) (W:Fr (some x.pF) (some x.mF) w w'):Wv base col w' x { s with O:=I,P:=J,n:=n',C:=G } ∧ Fw col w w':=by
 obtain ⟨r,q,h,hi⟩:=h
 have z:=h.fact.lo
 have F:=h.fact.lt
 have u:Fz (fun g=>col g=5) w w':=fz_fr W (h.kf _ (by have z:x.bF≤x.mF:=z; have F:x.mF < x.pF:=F; show x.bF≤x.pF; omega) (Nat.le_refl _)) (fun g e=>by injection e with e; subst e; exact h.kf _ z (Nat.le_of_lt F))
 exact ⟨⟨r,q,⟨(h.cells_aside u (by decide)).to rfl rfl rfl rfl rfl rfl rfl rfl rfl rfl rfl,h.bag_aside u (by decide) (by decide),h.loc_aside u (by decide) (by decide),h.slots_aside u (by decide),h.book_aside u (by decide),Q,h.hist_aside u (by decide),h.kl,h.ks,h.kb,h.kf,h.kh,h.kw,h.lo⟩,fun g Y=>Nat.lt_of_lt_of_le (hi g Y) u.size⟩,fw_of (by decide) u⟩
theorem Wv.locT {z:Nat→List Int} (h:Wv base col w x s) (F:Lc.Lo (fun g=>(col g≠0∧col g≠2)∨g < base) w' base x.pl z) (G:Fr (some x.pl) none w w'):Wv base col w' x { s with loc:=z } ∧ Fw col w w':=by
 obtain ⟨r,q,h,hi⟩:=h
 have u:Fz (fun g=>col g=2) w w':=fz_fr G h.kl (fun g e=>by cases e)
 exact ⟨⟨r,q,⟨(h.cells_aside u (by decide)).to rfl rfl rfl rfl rfl rfl rfl rfl rfl rfl rfl,h.bag_aside u (by decide) (by decide),F,h.slots_aside u (by decide),h.book_aside u (by decide),h.fact_aside u (by decide),h.hist_aside u (by decide),h.kl,h.ks,h.kb,h.kf,h.kh,h.kw,h.lo⟩,fun g I=>Nat.lt_of_lt_of_le (hi g I) u.size⟩,fw_of (by decide) u⟩
theorem Wo.slotsT {I:Option Nat} {l':List St.Sx} (h:Wo base col w x s) (hi:∀ g,col g≠0→g < w.heap.size) (J:St.Ss w' base x.ps I l') (W:Fr (some x.ps) x.rs w w') (Y:∀ g,I=some g→x.rs=some g∨w.heap.size≤g) :
  ∃ col',Wv base col' w' x { s with sl:=l' } ∧ Fw col w w'∧El w col col':=by
 have G:Fz (fun g=>col g=3) w w':=fz_fr W h.ks.1 h.ks.2
 have hs:=G.size
 have Q:=h.base_le
 have u:=h.recol (col':=more w w' col 3) more_el (fun g z=>more_lo Q h.lo z)
 have F:Fz (fun g=>more w w' col 3 g=3) w w':=G.mono fun g z e=>(more_el g z).trans e
 refine ⟨more w w' col 3,⟨I,x.rh,⟨(u.cells_aside F (by decide)).to rfl rfl rfl rfl rfl rfl rfl rfl rfl rfl rfl,u.bag_aside F (by decide) (by decide),u.loc_aside F (by decide) (by decide),J,u.book_aside F (by decide),u.fact_aside F (by decide),u.hist_aside F (by decide),u.kl,⟨u.ks.1,fun g z=>?_⟩,u.kb,u.kf,u.kh,u.kw,u.lo⟩,fun g z=>more_lt hs z⟩,fw_of (by decide) G,more_el⟩
 rcases Y g z with e | e
 ·exact u.ks.2 g e
 ·exact more_new e (J.rowlt g z).2
theorem Wo.histT {G:Option Nat} {st:Int} {l':List Tx.Ev} (h:Wo base col w x s) (hi:∀ g,col g≠0→g < w.heap.size) (Q:Hi.Hs w' base x.ph G st l') (hf:Fr (some x.ph) x.rh w w') (hr:G=x.rh ∨ ∃ g,G=some g∧w.heap.size≤g) :
  ∃ col',Wv base col' w' x { s with step:=st,ev:=l' } ∧ Fw col w w'∧El w col col':=by
 have I:Fz (fun g=>col g=6) w w':=fz_fr hf h.kh.1 h.kh.2
 have hs:=I.size
 have Y:=h.base_le
 have u:=h.recol (col':=more w w' col 6) more_el (fun g z=>more_lo Y h.lo z)
 have F:Fz (fun g=>more w w' col 6 g=6) w w':=I.mono fun g z e=>(more_el g z).trans e
 refine ⟨more w w' col 6,⟨x.rs,G,⟨(u.cells_aside F (by decide)).to rfl rfl rfl rfl rfl rfl rfl rfl rfl rfl rfl,u.bag_aside F (by decide) (by decide),u.loc_aside F (by decide) (by decide),u.slots_aside F (by decide),u.book_aside F (by decide),u.fact_aside F (by decide),Q,u.kl,u.ks,u.kb,u.kf,⟨u.kh.1,fun g z=>?_⟩,u.kw,u.lo⟩,fun g z=>more_lt hs z⟩,fw_of (by decide) I,more_el⟩
 rcases hr with e | ⟨J,e,a0⟩
 ·exact u.kh.2 g (e ▸ z)
 ·have W:J=g:=by rw [e] at z; injection z
  subst W
  exact more_new a0 (Q.row J e).2
theorem Wv.ownT (h:Wv base col w x s) (cf:Cf) (nw lv:Int) (cl:Bool) (hc:Wc w' x { s with conf:=cf,now:=nw,live:=lv,closed:=cl }) (u:Fz (fun g=>col g=7) w w'):Wv base col w' x { s with conf:=cf,now:=nw,live:=lv,closed:=cl } ∧ Fw col w w':=by
 obtain ⟨r,q,h,hi⟩:=h
 refine ⟨⟨r,q,h.own_ cf nw lv cl ?_ u,fun g z=>Nat.lt_of_lt_of_le (hi g z) u.size⟩,fw_of (by decide) u⟩
 exact ⟨hc.c0,hc.c1,hc.c2,hc.c3,hc.c4,hc.c5,hc.c6,hc.c7,hc.c8,hc.c9,hc.c10,hc.c11,hc.c12,hc.c13,hc.c14,hc.c15,hc.fz⟩
end
theorem Wv.var {base:Nat} {col:Nat→Nat} {w w':World} {x:Wp} {s:Ws} (h:Wv base col w x s) (Q:Below w.heap.size w w') (r:Nat) (h1:w.heap.size≤r) (h2:r < w'.heap.size):∃ col',Wv base col' w' x s∧El w col col'∧col' r=8 ∧ ∀ g,w.heap.size≤g→g≠r→col' g=0:=by
 have a1:=h.base_le
 obtain ⟨col',I⟩:∃ col':Nat→Nat,col'=fun g=>if g < w.heap.size then col g else if g=r then 8 else 0:=⟨_,rfl⟩
 have z:∀ g,g < w.heap.size→col' g=col g:=fun g u=>by rw [I]; exact if_pos u
 have W:col' r=8:=by rw [I]; show (if r < w.heap.size then col r else if r=r then 8 else 0)=8; rw [if_neg (by omega),if_pos rfl]
 have J:∀ g,w.heap.size≤g→g≠r→col' g=0:=fun g F G=>by rw [I]; show (if g < w.heap.size then col g else if g=r then 8 else 0)=0; rw [if_neg (by omega),if_neg G]
 have a0:=h.lo
 obtain ⟨p,q,Y,hi⟩:=h
 have hs:=Q.size
 refine ⟨col',⟨p,q,(Y.recol z (fun g u=>?_)).later Q,fun g u=>?_⟩,z,W,J⟩
 ·by_cases F:g < w.heap.size
  ·exact a0 g (by rw [← z g F]; exact u)
  ·omega
 ·by_cases F:g < w.heap.size
  ·omega
  ·by_cases G:g=r
   ·omega
   ·exact absurd (J g (by omega) G) u
section
variable (w:World) {base:Nat} {col:Nat→Nat} {x:Wp} {s:Ws}
theorem wswap (h:Wv base col w x s) (id old st now:Int) (hid:U64 id) (J:U64 old) (I:U64 now):Calls Tryz.prog 83 #[ptr x.pb,.int .u64 id,.int .u64 old,.int .i64 st,.int .u64 now] w fun e w'=>e=.returned (.tuple #[.int .u64 (bV s.D id old st),.bool (bK s.D id old st)]) ∧
  ∃ col',Wv base col' w' x { s with D:=up s.D id (exS old st now) } ∧ Fw col w w'∧El w col col':=
 (swap_any w x.pb x.ab s.D s.S id h.bag hid old st now J I).mono fun e w' ⟨u,z,F⟩=>⟨u,h.bagT z F (fun g G hc=>hc) (fun g G hc=>hc)⟩
theorem wenter (h:Wv base col w x s) (id st now:Int) (hid:U64 id) (J:U64 now) (I:s.D.length < 1000000):Calls Tryz.prog 73 #[ptr x.pb,.int .u64 id,.int .i64 st,.int .u64 now] w fun e w'=>e=.returned (.int .i64 (eE s.D id st)) ∧
  ∃ col',Wv base col' w' x { s with D:=entD s.D id st now } ∧ Fw col w w'∧El w col col':=
 (enter_any w x.pb x.ab s.D s.S id h.bag hid st now J I).mono fun e w' ⟨u,z,F⟩=>⟨u,h.bagT z F (fun g G hc=>hc.elim And.right (fun Q=>by omega)) (fun g G hc=>hc.2)⟩
theorem wpublish (h:Wv base col w x s) (id:Int) (hid:U64 id) (I:s.S.length≤1000000):Calls Tryz.prog 135 #[ptr x.pb,.int .u64 id] w fun e w'=>e=.returned (.int .i64 (kn s.D id)) ∧
  ∃ col',Wv base col' w' x { s with S:=pubS s.D s.S id } ∧ Fw col w w'∧El w col col':=
 (publish_any w x.pb x.ab s.D s.S id h.bag hid I).mono fun e w' ⟨u,z,F⟩=>⟨u,h.bagT z F (fun g G hc=>hc.2) (fun g G hc=>hc.elim And.right (fun J=>by omega))⟩
theorem wunlist (h:Wv base col w x s) (id:Int) (hid:U64 id) (I:s.S.length≤1000000):Calls Tryz.prog 235 #[ptr x.pb,.int .u64 id] w fun e w'=>e=.returned (.int .i64 (kn s.D id)) ∧
  ∃ col',Wv base col' w' x { s with S:=unlS s.D s.S id } ∧ Fw col w w'∧El w col col':=
 (unlist_any w x.pb x.ab s.D s.S id h.bag hid I).mono fun e w' ⟨u,z,F⟩=>⟨u,h.bagT z F (fun g G hc=>hc.2) (fun g G hc=>hc.elim And.right (fun J=>by omega))⟩
theorem wopen (h:Wv base col w x s) (hn:s.n < 18446744073709551615):Calls Tryz.prog 71 #[ptr x.pF] w fun e w'=>e=.returned (.tuple #[.int .u64 (opnI s.O s.n),.bool (Fc.nx s.O).1]) ∧
  Wv base col w' x { s with O:=(Fc.nx s.O).2,n:=opnN s.O s.n } ∧ Fw col w w':=
 (Fc.open_any x.pF x.bF x.mF s.n s.O s.P s.C w h.fact hn).mono fun e w' ⟨u,z,F⟩=>⟨u,h.factT z F⟩
theorem wclose (h:Wv base col w x s) (id:Int) (hid:U64 id) (hn:s.C.length < 1000):Calls Tryz.prog 141 #[ptr x.pF,.int .u64 id] w fun e w'=>e=.returned (.int .i64 (Fc.kn s.n s.C id 10)) ∧
  Wv base col w' x { s with C:=clsC s.n s.C id } ∧ Fw col w w':=
 (Fc.close_any x.pF x.bF x.mF s.n s.O s.P s.C id w h.fact hid hn).mono fun e w' ⟨u,z,F⟩=>⟨u,h.factT z F⟩
theorem wadd (h:Wv base col w x s) (th z op id u:Int) (Q:s.ev.length≤1000):Calls Tryz.prog 143 #[ptr x.ph,.int .i64 th,.int .i64 z,.int .i64 op,.int .u64 id,.int .i64 u] w fun e w'=>e=.returned (.tuple #[]) ∧
  ∃ col',Wv base col' w' x { s with ev:=s.ev ++ [⟨s.step,th,z,op,id,u⟩] } ∧ Fw col w w'∧El w col col':=by
 obtain ⟨r,q,h,hi⟩:=h
 exact (Hi.add_any w base x.ph q s.step s.ev th z op id u h.hist Q).mono fun e w' ⟨F,W,G,I,J⟩=>⟨F,h.histT hi G I J⟩
theorem wpark (h:Wv base col w x s) (t d:Int) (I:s.sl.length≤1000):Calls Tryz.prog 35 #[ptr x.ps,.int .i64 t,.int .u64 d] w fun e w'=>e=.returned (.int .i64 (St.parkE s.sl t)) ∧
  ∃ col',Wv base col' w' x { s with sl:=St.parkL s.sl t d } ∧ Fw col w w'∧El w col col':=by
 obtain ⟨r,q,h,hi⟩:=h
 exact (St.parkU w base x.ps r s.sl t d h.slots I).mono fun e w' ⟨u,J,z,F,G⟩=>⟨u,h.slotsT hi z F G⟩
theorem wfill (h:Wv base col w x s) (id:Int):Calls Tryz.prog 231 #[ptr x.ps,.int .u64 id] w fun e w'=>e=.returned (.tuple #[.int .i64 (St.fillR s.sl id).2.1,.bool (St.fillR s.sl id).2.2]) ∧
  ∃ col',Wv base col' w' x { s with sl:=(St.fillR s.sl id).1 } ∧ Fw col w w'∧El w col col':=by
 obtain ⟨r,q,h,hi⟩:=h
 exact (St.fillU w base x.ps r s.sl id h.slots).mono fun e w' ⟨u,z,F⟩=>⟨u,h.slotsT hi z F (fun g G=>.inl G)⟩
theorem wtake (h:Wv base col w x s) (t:Int):Calls Tryz.prog 160 #[ptr x.ps,.int .i64 t] w fun e w'=>e=.returned (.tuple #[.int .u64 (St.takeR s.sl t).2.1,.bool (St.takeR s.sl t).2.2]) ∧
  ∃ col',Wv base col' w' x { s with sl:=(St.takeR s.sl t).1 } ∧ Fw col w w'∧El w col col':=by
 obtain ⟨r,q,h,hi⟩:=h
 exact (St.takeU w base x.ps r s.sl t h.slots).mono fun e w' ⟨u,z,F⟩=>⟨u,h.slotsT hi z F (fun g G=>.inl G)⟩
theorem wltake (h:Wv base col w x s) (t:Int):Calls Tryz.prog 153 #[ptr x.pl,.int .i64 t] w fun e w'=>e=.returned (.tuple #[.int .u64 (Lc.takeR s.loc t).2.1,.bool (Lc.takeR s.loc t).2.2]) ∧
  Wv base col w' x { s with loc:=(Lc.takeR s.loc t).1 } ∧ Fw col w w':=by
 unfold Lc.takeR
 cases hr:Lc.inR t with
 | false=>
  simp only [Bool.false_eq_true,if_false]
  refine (Lc.take_none (some ⟨x.pl,0,none⟩) t w (.inr ⟨x.pl,rfl,Lc.inR_no hr⟩)).mono ?_
  rintro e w' ⟨rfl,rfl⟩
  exact ⟨rfl,h,Fz.refl _ _⟩
 | true=>
  obtain ⟨i,rfl,hi⟩:=Lc.inR_yes hr
  simp only [if_true,Int.toNat_natCast]
  cases hg:(s.loc i).getLast? with
  | none=>
   refine (Lc.take_empty _ w base x.pl i s.loc h.loc hi (by simpa using hg)).mono ?_
   rintro e w' ⟨rfl,rfl⟩
   exact ⟨rfl,h,Fz.refl _ _⟩
  | some y=>
   refine (Lc.take_some _ w base x.pl i s.loc (s.loc i).dropLast y h.loc hi (by obtain ⟨G,F⟩:=List.getLast?_eq_some_iff.1 hg; rw [F]; simp)).mono ?_
   rintro e w' ⟨rfl,u,z⟩
   exact ⟨rfl,h.locT u z⟩
theorem wlput (h:Wv base col w x s) (t:Int) (A:Option Addr) (n c:Nat) (ids:List Int) (I:Rd (Value.int .u64) w w.heap.size A n c ids) (hn:n≤1000):Calls Tryz.prog 233 #[ptr x.pl,.int .i64 t,.slice A n c] w fun e w'=>e=.returned (.int .i64 (Lc.putE t)) ∧
  Wv base col w' x { s with loc:=Lc.putR s.loc t ids } ∧ Fw col w w':=by
 unfold Lc.putE Lc.putR
 cases hi:Lc.inR t with
 | false=>
  refine (Lc.put_out x.pl t A n c w (Lc.inR_no hi)).mono ?_
  rintro e w' ⟨rfl,rfl⟩
  exact ⟨rfl,h,Fz.refl _ _⟩
 | true=>
  obtain ⟨i,rfl,G⟩:=Lc.inR_yes hi
  simp only [if_true,Int.toNat_natCast]
  refine (Lc.put_in _ w base x.pl i s.loc A n c ids (fun g F=>F.elim (fun e=>h.hi g e.1) (fun e=>Nat.lt_of_lt_of_le e h.base_le)) h.loc G I hn).mono ?_
  rintro e w' ⟨rfl,u,z⟩
  exact ⟨rfl,h.locT u z⟩
variable (N:List Int)
theorem wbegin (h:Wv base col w x s) (u:s.M=Le.mk N) (id th now:Int) (hid:U64 id) (Y:U64 now) (W:U64 s.leak) (Q:s.L.length≤1000) (J:s.T.length≤1000):Calls Tryz.prog 137 #[ptr x.bk.p,.int .u64 id,.int .i64 th,.int .u64 now] w fun e w'=>e=.returned (.int .i64 (Le.bE s.L id th)) ∧
  Wv base col w' x { s with L:=Le.bL s.L id th now,T:=Le.bT s.leak s.L s.T id th now } ∧ Fw col w w':=by
 have z:=h.book
 rw [u] at z
 refine (Le.beginU w x.bk s.leak s.L N s.T id th now z hid Y W Q J).mono fun e w' ⟨F,G,I⟩=>⟨F,?_⟩
 have:=h.bookT G I (.inl ⟨rfl,rfl⟩)
 rw [← u] at this
 exact this
theorem wmark (h:Wv base col w x s) (I:s.M=Le.mk N) (id th:Int) (hid:U64 id) (J:N.length≤1000):Calls Tryz.prog 37 #[ptr x.bk.p,.int .u64 id,.int .i64 th] w fun e w'=>e=.returned (.int .i64 (Le.wr s.L id th)) ∧
  Wv base col w' x { s with M:=Le.mk (mrkN s.L N id th) } ∧ Fw col w w':=by
 have u:=h.book
 rw [I] at u
 exact (Le.markU w x.bk s.leak s.L N s.T id th u hid J).mono fun e w' ⟨z,F,G⟩=>⟨z,h.bookT F G (.inr ⟨rfl,rfl⟩)⟩
theorem wforget (h:Wv base col w x s) (I:s.M=Le.mk N) (id:Int) (hid:U64 id):Calls Tryz.prog 142 #[ptr x.bk.p,.int .u64 id] w fun e w'=>e=.returned (.tuple #[]) ∧
  Wv base col w' x { s with M:=Le.mk (N.filter (· != id)) } ∧ Fw col w w':=by
 have u:=h.book
 rw [I] at u
 exact (Le.forgetU w x.bk s.leak s.L N s.T id u hid).mono fun e w' ⟨z,F,G⟩=>⟨z,h.bookT F G (.inr ⟨rfl,rfl⟩)⟩
end
section
variable (w:World) {base:Nat} {col:Nat→Nat} {x:Wp} {s:Ws}
theorem wnow_any (h:Wc w x s):Calls Tryz.prog 74 #[ptr x.pw] w fun e w'=>e=.returned (.int .u64 s.now)∧Below w.heap.size w w':=by
 have c7:=h.c7
 clear h
 go_enter Tryz.func74,Tryz.ntmps74
 go_wp2_with fail
 refine (Ck.now_any s.now _).mono ?_
 rintro e u ⟨rfl,rfl⟩
 go_wp2_with fail
 go_ret
 exact ⟨rfl,(Below.refl _ _).alloc (Nat.le_refl _) _⟩
theorem Wc.at7 (h:Wc w x s) (nw:Int):Wc (w.setCell ⟨x.pw,7,none⟩ (.int .u64 nw)) x { s with now:=nw }:=by
 have k:∀ o u,o≠7→w.cell? ⟨x.pw,o,none⟩=some u→(w.setCell ⟨x.pw,7,none⟩ (.int .u64 nw)).cell? ⟨x.pw,o,none⟩=some u:=fun o u F z=>(World.cell?_setCell_other _ _ _ _ (fun e=>by injection e with _ e _; omega)).trans z
 exact ⟨k 0 _ (by decide) h.c0,k 1 _ (by decide) h.c1,k 2 _ (by decide) h.c2,k 3 _ (by decide) h.c3,k 4 _ (by decide) h.c4,k 5 _ (by decide) h.c5,k 6 _ (by decide) h.c6,World.cell?_setCell_same _ _ _ h.c7,k 8 _ (by decide) h.c8,k 9 _ (by decide) h.c9,k 10 _ (by decide) h.c10,k 11 _ (by decide) h.c11,k 12 _ (by decide) h.c12,k 13 _ (by decide) h.c13,k 14 _ (by decide) h.c14,k 15 _ (by decide) h.c15,fun o=>by simpa using h.fz o⟩
theorem Wc.at15 (h:Wc w x s) (b:Bool):Wc (w.setCell ⟨x.pw,15,none⟩ (.bool b)) x { s with closed:=b }:=by
 have k:∀ o u,o≠15→w.cell? ⟨x.pw,o,none⟩=some u→(w.setCell ⟨x.pw,15,none⟩ (.bool b)).cell? ⟨x.pw,o,none⟩=some u:=fun o u F z=>(World.cell?_setCell_other _ _ _ _ (fun e=>by injection e with _ e _; omega)).trans z
 exact ⟨k 0 _ (by decide) h.c0,k 1 _ (by decide) h.c1,k 2 _ (by decide) h.c2,k 3 _ (by decide) h.c3,k 4 _ (by decide) h.c4,k 5 _ (by decide) h.c5,k 6 _ (by decide) h.c6,k 7 _ (by decide) h.c7,k 8 _ (by decide) h.c8,k 9 _ (by decide) h.c9,k 10 _ (by decide) h.c10,k 11 _ (by decide) h.c11,k 12 _ (by decide) h.c12,k 13 _ (by decide) h.c13,k 14 _ (by decide) h.c14,World.cell?_setCell_same _ _ _ h.c15,fun o=>by simpa using h.fz o⟩
theorem wset7 (h:Wv base col w x s) (nw:Int):Wv base col (w.setCell ⟨x.pw,7,none⟩ (.int .u64 nw)) x { s with now:=nw } ∧ Fw col w (w.setCell ⟨x.pw,7,none⟩ (.int .u64 nw)):=
 h.ownT s.conf nw s.live s.closed (h.cells.at7 w nw) (Fz.of_set _ h.kw)
theorem wset14 (h:Wv base col w x s) (lv:Int):Wv base col (w.setCell ⟨x.pw,14,none⟩ (.int .i64 lv)) x { s with live:=lv } ∧ Fw col w (w.setCell ⟨x.pw,14,none⟩ (.int .i64 lv)):=
 h.ownT s.conf s.now lv s.closed (h.cells.live w lv) (Fz.of_set _ h.kw)
theorem wset15 (h:Wv base col w x s) (b:Bool):Wv base col (w.setCell ⟨x.pw,15,none⟩ (.bool b)) x { s with closed:=b } ∧ Fw col w (w.setCell ⟨x.pw,15,none⟩ (.bool b)):=
 h.ownT s.conf s.now s.live b (h.cells.at15 w b) (Fz.of_set _ h.kw)
theorem wtick_any (h:Wv base col w x s) (n:Int) (F:U64 s.now) (hn:U64 n):Calls Tryz.prog 7 #[ptr x.pw,.int .u64 n] w fun e w'=>e=.returned (.tuple #[]) ∧
  Wv base col w' x { s with now:=Ck.cAdd s.now n } ∧ Fw col w w':=by
 have c7:=h.cells.c7
 have Q:=Lh h
 clear h
 go_enter Tryz.func7,Tryz.ntmps7
 go_wp2_with fail
 refine (Ck.tick_any s.now n _ F.1 F.2 hn.1 hn.2).mono ?_
 rintro e I ⟨rfl,b1⟩
 have z:Below w.heap.size w I:=by
  rw [← b1]
  exact (((Below.refl _ _).alloc (Nat.le_refl _) _).alloc (by simp) _).alloc (by simp; omega) _
 have u:=Lh (Q.out.later z)
 have J:=Lh z
 have d7:=u.out.cells.c7
 have W:=u.out.cells.fz 7
 clear b1 c7 z
 go_wp2_with fail
 have G:=wset7 I u.out (Ck.cAdd s.now n)
 exact bodyPost_end (v:=.tuple #[]) (by simp [results,Tryz.results7]) rfl ⟨rfl,G.1,(Fz.of_below J.out).trans G.2⟩
theorem wshrink_any (h:Wv base col w x s) (z:0≤s.live) (G:s.live≤1000000):Calls Tryz.prog 69 #[ptr x.pw] w fun e w'=>e=.returned (.tuple #[]) ∧
  Wv base col w' x { s with live:=shrV s.live } ∧ Fw col w w':=by
 have c14:=h.cells.c14
 have I:∀ y:After w,y.1.cell? ⟨x.pw,14,none⟩=some (.int .i64 s.live):=fun y=>y.cell c14
 have u:=Lh h
 by_cases hl:0 < s.live
 ·have J:decide (0 < s.live)=true:=decide_eq_true hl
  have W:IntKind.i64.wrap (s.live - 1)=s.live - 1:=by rw [IntKind.wrap_i64]; omega
  rw [show shrV s.live=s.live - 1 from if_pos hl]
  clear h hl z G
  go_enter Tryz.func69,Tryz.ntmps69
  have Q:=u.out.cells.fz 14
  clear I
  go_wp2_with fail
  have F:=wset14 w u.out (s.live - 1)
  exact bodyPost_end (v:=.tuple #[]) (by simp [results,Tryz.results69]) rfl ⟨rfl,F.1,F.2⟩
 ·have J:decide (0 < s.live)=false:=decide_eq_false hl
  rw [show shrV s.live=s.live from if_neg hl]
  clear h hl z G
  go_enter Tryz.func69,Tryz.ntmps69
  go_wp2_with fail
  exact bodyPost_end (v:=.tuple #[]) (by simp [results,Tryz.results69]) rfl ⟨rfl,u.out,Fz.refl _ _⟩
theorem wgrow_any (h:Wv base col w x s) (z:0≤s.live) (J:s.conf.max≤1000000):Calls Tryz.prog 68 #[ptr x.pw] w fun e w'=>e=.returned (.bool (decide (s.live < s.conf.max))) ∧
  Wv base col w' x { s with live:=grwV s.live s.conf.max } ∧ Fw col w w':=by
 obtain ⟨r,q,h,hi⟩:=h
 exact (grow_any w h z J).mono fun e w' ⟨F,G,u⟩=>⟨F,⟨r,q,G,fun g I=>Nat.lt_of_lt_of_le (hi g I) u.size⟩,fw_of ⟨by decide,by decide⟩ u⟩
variable (N:List Int)
theorem wlease_any (h:Wv base col w x s) (W:s.M=Le.mk N) (id th:Int) (hid:U64 id) (a1:U64 s.now) (a0:U64 s.leak) (hl:s.L.length≤1000) (hT:s.T.length≤1000):Calls Tryz.prog 79 #[ptr x.pw,.int .u64 id,.int .i64 th] w fun e w'=>e=.returned (.int .i64 (Le.bE s.L id th)) ∧
  Wv base col w' x { s with L:=Le.bL s.L id th s.now,T:=Le.bT s.leak s.L s.T id th s.now } ∧ Fw col w w':=by
 have Q:=Lh h
 have a4:=Lh W
 have a2:=Lh hid
 have a5:=Lh a1
 have a3:=Lh a0
 clear h W hid a1 a0
 go_enter Tryz.func79,Tryz.ntmps79
 go_wp2_with fail
 have u:Hid (Wc w.drew x s∧Fw col w w.drew):=Lh ⟨Q.out.cells.blk rfl,Fz.of_below (Below.refl _ _).drew⟩
 have a6:Hid (Wv base col w.drew x s):=Lh (Q.out.later (Below.refl _ _).drew)
 refine reg_start 10 (fun w'=>Wc w' x s∧Fw col w w') (by kernel_rfl) (by kernel_rfl) ?_
 intro Y
 have z:=Lh Y
 clear Y
 refine rq 0 z.out u.out rfl ?_
 refine rq 1 z.out u.out rfl ?_
 refine rq 2 z.out u.out rfl ?_
 refine rq 3 z.out u.out rfl ?_ (hv:=fun w' hw=>by (have a9:=hw.1.c11; go_simp; exact rfl))
 refine rq 4 z.out u.out rfl ?_
 refine rq 5 z.out u.out rfl ?_
 refine rq 6 z.out u.out rfl ?_
 refine reg_only 7 rfl (by kernel_rfl) rfl ?_
 unfold Oper.wp
 go_simp
 refine (wnow_any _ u.out.1).mono ?_
 rintro e J ⟨rfl,G⟩
 have F:Wc J x s∧Fw col w J:=⟨u.out.1.blk (G.block _ u.out.1.lt),u.out.2.trans (Fz.of_below G)⟩
 refine ⟨F,?_⟩
 have a7:=Lh (a6.out.later G)
 clear u G
 have u:=Lh F
 clear F
 refine reg_only 8 rfl (by kernel_rfl) rfl ?_
 unfold Oper.wp
 go_simp
 refine (wbegin J N a7.out a4.out id th s.now a2.out a5.out a3.out hl hT).mono ?_
 rintro e w3 ⟨rfl,I,z3⟩
 have F:Wc w3 x s∧Fw col w w3:=⟨I.cells.to rfl rfl rfl rfl rfl rfl rfl rfl rfl rfl rfl,u.out.2.trans z3⟩
 refine ⟨F,?_⟩
 have a8:=Lh I
 clear u I z3
 have u:=Lh F
 clear F
 refine rq 9 z.out u.out rfl ?_
 refine reg_done (by kernel_rfl) ?_
 go_wp2_with fail
 go_ret
 exact ⟨rfl,a8.out,u.out.2⟩
def remS (s:Ws) (N:List Int) (id old th op:Int):Ws:={ s with D:=up s.D id (exS old 3 s.now),C:=clsC s.n s.C id,M:=Le.mk (N.filter (· != id)),ev:=s.ev ++ [⟨s.step,th,3,op,id,0⟩] }
theorem up_fail {D:List (Int × Ex)} (hn:Nd D) {id old st:Int} (hk:bK D id old st=false) (now:Int):up D id (exS old st now)=D:=by
 refine up_same (fun x hx=>?_) hn
 unfold bK at hk
 rw [hx] at hk
 have hk:Wd.wSwapOk x.word old st=false:=hk
 have u:Wd.wSwap x.word old st=x.word:=by
  unfold Wd.wSwap
  unfold Wd.wSwapOk at hk
  split
  ·next h=>exact absurd h (by simpa using hk)
  ·rfl
 unfold exS
 rw [hk,u]
 simp
theorem fw_two {col col':Nat→Nat} {w w' z:World} (h:Fw col w w') (F:El w col col') (u:Fw col' w' z):Fw col w z:=
 ⟨u.os.trans h.os,u.tape.trans h.tape,u.output.trans h.output,Nat.le_trans h.size u.size,fun k hk hc=>(u.block k (Nat.lt_of_lt_of_le hk h.size) (fun e=>hc (by rw [F k hk] at e; exact e))).trans (h.block k hk hc)⟩
theorem wrem_no (h:Wv base col w x s) (hM:s.M=Le.mk N) (id old th op:Int) (hid:U64 id) (a1:U64 s.now) (ho:U64 old) (hk:bK s.D id old 3=false):Calls Tryz.prog 81 #[ptr x.pw,.int .u64 id,.int .u64 old,.int .i64 th,.int .i64 op] w fun e w'=>e=.returned (.bool false) ∧
  ∃ col',Wv base col' w' x s∧Fw col w w'∧El w col col':=by
 have a7:=Lh (up_fail h.bag.ri.nd hk s.now)
 have Q:=Lh h
 have ad:=Lh hM
 have a3:=Lh hid
 have a6:=Lh a1
 have HO:=Lh ho
 have a4:=Lh hk
 clear h hM hid a1 ho hk
 go_enter Tryz.func81,Tryz.ntmps81
 go_wp2_with fail
 have u:Hid (Wc w.drew x s∧Fw col w w.drew):=Lh ⟨Q.out.cells.blk rfl,Fz.of_below (Below.refl _ _).drew⟩
 have a8:Hid (Wv base col w.drew x s):=Lh (Q.out.later (Below.refl _ _).drew)
 refine reg_start 14 (fun w'=>Wc w' x s∧Fw col w w') (by kernel_rfl) (by kernel_rfl) ?_
 intro a0
 have z:=Lh a0
 clear a0
 refine rq 0 z.out u.out rfl ?_
 refine rq 1 z.out u.out rfl ?_
 refine rq 2 z.out u.out rfl ?_
 refine rq 3 z.out u.out rfl ?_ (hv:=fun w' hw=>by (have k8:=hw.1.c8; go_simp; exact rfl))
 refine rq 4 z.out u.out rfl ?_
 refine rq 5 z.out u.out rfl ?_
 refine rq 6 z.out u.out rfl ?_
 refine reg_only 7 rfl (by kernel_rfl) rfl ?_
 unfold Oper.wp
 go_simp
 refine (wnow_any _ u.out.1).mono ?_
 rintro e J ⟨rfl,I⟩
 have F:Wc J x s∧Fw col w J:=⟨u.out.1.blk (I.block _ u.out.1.lt),u.out.2.trans (Fz.of_below I)⟩
 refine ⟨F,?_⟩
 have a9:=Lh (a8.out.later I)
 have W:=u.out.2.size
 have ae:=I.size
 clear u I
 have u:=Lh F
 clear F
 refine reg_only 8 rfl (by kernel_rfl) rfl ?_
 unfold Oper.wp
 go_simp
 refine (wswap J a9.out id old 3 s.now a3.out HO.out a6.out).mono ?_
 rintro e w3 ⟨rfl,ac,G,z3,l3⟩
 rw [a4.out]
 have F:Wc w3 x s∧Fw col w w3:=⟨G.cells.to rfl rfl rfl rfl rfl rfl rfl rfl rfl rfl rfl,u.out.2.trans z3⟩
 refine ⟨F,?_⟩
 have aa:=Lh G
 have a5:=Lh l3
 have a2:=Lh W
 clear u G z3 l3 W
 have u:=Lh F
 clear F
 obtain ⟨Y,hY⟩:∃ Y,bV s.D id old 3=Y:=⟨_,rfl⟩
 rw [hY]
 clear hY
 refine rq 9 z.out u.out rfl ?_
 refine rq 10 z.out u.out rfl ?_
 refine rq 11 z.out u.out rfl ?_
 refine rq 12 z.out u.out rfl ?_
 refine rq 13 z.out u.out rfl ?_
 refine reg_done (by kernel_rfl) ?_
 go_wp2_with fail
 go_ret
 have G:=aa.out
 rw [a7.out] at G
 exact ⟨rfl,ac,G,u.out.2,fun g hg=>a5.out g (by have:=a2.out; omega)⟩
theorem wrem_yes (h:Wv base col w x s) (hM:s.M=Le.mk N) (id old th op:Int) (hid:U64 id) (a7:U64 s.now) (ho:U64 old) (hk:bK s.D id old 3=true) (hn:s.C.length < 1000) (hl:s.ev.length≤1000):Calls Tryz.prog 81 #[ptr x.pw,.int .u64 id,.int .u64 old,.int .i64 th,.int .i64 op] w fun e w'=>e=.returned (.bool true) ∧
  ∃ col',Wv base col' w' x (remS s N id old th op)∧Fw col w w'∧El w col col':=by
 have HW:=Lh h
 have aa:=Lh hM
 have W:=Lh hid
 have ac:=Lh a7
 have HO:=Lh ho
 have a8:=Lh hk
 clear h hM hid a7 ho hk
 go_enter Tryz.func81,Tryz.ntmps81
 go_wp2_with fail
 have u:Hid (Wc w.drew x s∧Fw col w w.drew):=Lh ⟨HW.out.cells.blk rfl,Fz.of_below (Below.refl _ _).drew⟩
 have af:Hid (Wv base col w.drew x s):=Lh (HW.out.later (Below.refl _ _).drew)
 refine reg_start 14 (fun w'=>Wc w' x s∧Fw col w w') (by kernel_rfl) (by kernel_rfl) ?_
 intro a6
 have z:=Lh a6
 clear a6
 refine rq 0 z.out u.out rfl ?_
 refine rq 1 z.out u.out rfl ?_
 refine rq 2 z.out u.out rfl ?_
 refine rq 3 z.out u.out rfl ?_ (hv:=fun w' hw=>by (have k8:=hw.1.c8; go_simp; exact rfl))
 refine rq 4 z.out u.out rfl ?_
 refine rq 5 z.out u.out rfl ?_
 refine rq 6 z.out u.out rfl ?_
 refine reg_only 7 rfl (by kernel_rfl) rfl ?_
 unfold Oper.wp
 go_simp
 refine (wnow_any _ u.out.1).mono ?_
 rintro e w2 ⟨rfl,G⟩
 have F:Wc w2 x s∧Fw col w w2:=⟨u.out.1.blk (G.block _ u.out.1.lt),u.out.2.trans (Fz.of_below G)⟩
 refine ⟨F,?_⟩
 have ag:=Lh (af.out.later G)
 have a5:=u.out.2.size
 have ah:=G.size
 clear u G
 have u:=Lh F
 clear F
 refine reg_only 8 rfl (by kernel_rfl) rfl ?_
 unfold Oper.wp
 go_simp
 refine (wswap w2 ag.out id old 3 s.now W.out HO.out ac.out).mono ?_
 rintro e w3 ⟨rfl,ai,h3,z3,l3⟩
 rw [a8.out]
 have F:Wc w3 x s∧Fw col w w3:=⟨h3.cells.to rfl rfl rfl rfl rfl rfl rfl rfl rfl rfl rfl,u.out.2.trans z3⟩
 refine ⟨F,?_⟩
 have a2:=Lh h3
 have J:=Lh l3
 have I:=Lh a5
 clear u h3 z3 l3 a5
 have u:=Lh F
 clear F
 obtain ⟨Y,hY⟩:∃ Y,bV s.D id old 3=Y:=⟨_,rfl⟩
 rw [hY]
 clear hY
 refine rq 9 z.out u.out rfl ?_
 refine rq 10 z.out u.out rfl ?_
 refine rq 11 z.out u.out rfl ?_
 refine rq 12 z.out u.out rfl ?_
 refine rq 13 z.out u.out rfl ?_
 refine reg_done (by kernel_rfl) ?_
 have c12:=a2.out.cells.c12
 go_wp2_with fail
 refine (wclose _ a2.out id W.out hn).mono ?_
 rintro e w4 ⟨rfl,h4,z4⟩
 have a3:=Lh h4
 have ad:Hid (Fw col w w4):=Lh (fw_two u.out.2 (fun g Q=>J.out g (by have:=I.out; omega)) z4)
 have c11:=a3.out.cells.c11
 clear h4 z4 c12
 go_wp2_with fail
 refine (wforget _ N a3.out aa.out id W.out).mono ?_
 rintro e w5 ⟨rfl,h5,z5⟩
 have a4:=Lh h5
 have a1:Hid (Fw col w w5):=Lh (fw_two ad.out (fun g Q=>J.out g (by have:=I.out; omega)) z5)
 have c13:=a4.out.cells.c13
 clear h5 z5 c11
 go_wp2_with fail
 refine (wadd _ a4.out th 3 op id 0 hl).mono ?_
 rintro e w6 ⟨rfl,a0,h6,z6,l6⟩
 have HX:Hid (Wv base a0 w6 x (remS s N id old th op)):=Lh h6
 have ae:Hid (Fw col w w6):=Lh (fw_two a1.out (fun g Q=>J.out g (by have:=I.out; omega)) z6)
 have a9:Hid (El w col a0):=Lh (fun g Q=>(l6 g (Nat.lt_of_lt_of_le Q a1.out.size)).trans (J.out g (by have:=I.out; omega)))
 clear h6 z6 l6 c13
 go_wp2_with fail
 go_ret
 exact ⟨rfl,a0,HX.out,ae.out,a9.out⟩
theorem wpub_closed (h:Wv base col w x s) (id:Int) (hc:s.closed=true):Calls Tryz.prog 77 #[ptr x.pw,.int .u64 id] w fun e w'=>e=.returned (.bool false)∧w=w':=by
 have c15:=h.cells.c15
 rw [hc] at c15
 clear h hc
 go_enter Tryz.func77,Tryz.ntmps77
 go_wp2_with fail
 go_ret
 exact ⟨rfl,rfl⟩
theorem wpub_open (h:Wv base col w x s) (id:Int) (hid:U64 id) (G:s.S.length≤1000000) (hc:s.closed=false):Calls Tryz.prog 77 #[ptr x.pw,.int .u64 id] w fun e w'=>e=.returned (.bool (kn s.D id == 0)) ∧
  ∃ col',Wv base col' w' x { s with S:=pubS s.D s.S id } ∧ Fw col w w'∧El w col col':=by
 have c15:=h.cells.c15
 have c8:=h.cells.c8
 rw [hc] at c15
 obtain ⟨Z,z⟩:∃ Z,kn s.D id=Z:=⟨_,rfl⟩
 have u:=wpublish w h id hid G
 rw [z] at u
 rw [z]
 have u:=Lh u
 clear h hc z
 go_enter Tryz.func77,Tryz.ntmps77
 go_wp2_with fail
 refine u.out.mono ?_
 rintro e I ⟨rfl,hx⟩
 have F:=Lh hx
 clear hx u
 go_wp2_with fail
 go_ret
 exact ⟨rfl,F.out⟩
theorem wwant_closed (h:Wv base col w x s) (hc:s.closed=true):Calls Tryz.prog 234 #[ptr x.pw] w fun e w'=>e=.returned (.bool true)∧w=w':=by
 have c15:=h.cells.c15
 rw [hc] at c15
 clear h hc
 go_enter Tryz.func234,Tryz.ntmps234
 go_wp2_with fail
 go_ret
 exact ⟨rfl,rfl⟩
theorem wwant_open (h:Wv base col w x s) (J:s.sl.length≤1000) (hc:s.closed=false):Calls Tryz.prog 234 #[ptr x.pw] w fun e w'=>e=.returned (.bool (decide (0 < St.waitN s.sl)))∧Below w.heap.size w w':=by
 have c15:=h.cells.c15
 have c10:=h.cells.c10
 rw [hc] at c15
 obtain ⟨r,F⟩:=h.slots
 have Q:=Lh F
 obtain ⟨m,z⟩:∃ m,St.waitN s.sl=m:=⟨_,rfl⟩
 have u:=St.waiting_any w base x.ps r s.sl F J
 rw [z] at u
 rw [z]
 have u:=Lh u
 clear h hc F z
 go_enter Tryz.func234,Tryz.ntmps234
 go_wp2_with fail
 refine u.out.mono ?_
 rintro e W ⟨rfl,G⟩
 have I:=Lh G
 clear G u
 go_wp2_with fail
 go_ret
 exact ⟨by simp,I.out⟩
end
theorem cAdd_u64 {a b:Int} (ha:U64 a) (h:U64 b):U64 (Ck.cAdd a b):=by
 exact ⟨Ck.cAdd_lo a b ha.1 h.1,Ck.cAdd_u a b⟩
section
variable {s:Ws} {N:List Int} {k:Nat}
end
end Go.Proofs.YtoiklelghfckgaaGreatDoor.Wo
