/- A part of the claim: the texts Meth ListRow BoxSub StrRow. -/
import Derived.Test.YtoiklelghfckgaaGreatDoorZGBag
import Derived.Test.YtoiklelghfckgaaGreatDoorZGWorldC
import Derived.Test.YtoiklelghfckgaaGreatDoorZGDocW
import Derived.Test.YtoiklelghfckgaaGreatDoorZGGive
import Derived.RegionTactic
set_option maxHeartbeats 8000000
set_option linter.unusedVariables false
namespace Go.Proofs.YtoiklelghfckgaaGreatDoor.Wo
open Go Go.ChangeShapes Go.WideShapes Go.ChangeAt Go.RowKit Go.Deep Go.Maps Rw Hi Mt Ba
theorem Wv.var8 {base:Nat} {col:Nat→Nat} {w w':World} {x:Wp} {s:Ws} (h:Wv base col w x s) (J:Below w.heap.size w w'):∃ col',Wv base col' w' x s∧El w col col' ∧ ∀ g,w.heap.size≤g→g < w'.heap.size→col' g=8:=by
 have a1:=h.base_le
 obtain ⟨col',I⟩:∃ col':Nat→Nat,col'=fun g=>if g < w.heap.size then col g else if g < w'.heap.size then 8 else 0:=⟨_,rfl⟩
 have G:∀ g,g < w.heap.size→col' g=col g:=fun g F=>by rw [I]; exact if_pos F
 have W:∀ g,w.heap.size≤g→g < w'.heap.size→col' g=8:=fun g u z=>by rw [I]; show (if g < w.heap.size then col g else if g < w'.heap.size then 8 else 0)=8; rw [if_neg (by omega),if_pos z]
 have Y:∀ g,¬ g < w.heap.size → ¬ g < w'.heap.size→col' g=0:=fun g u z=>by rw [I]; show (if g < w.heap.size then col g else if g < w'.heap.size then 8 else 0)=0; rw [if_neg u,if_neg z]
 obtain ⟨r,q,h,hi⟩:=h
 have a0:∀ g,col' g≠0→base≤g:=fun g F=>by
  by_cases u:g < w.heap.size
  ·rw [G g u] at F; exact h.lo g F
  ·omega
 refine ⟨col',⟨r,q,(h.recol G a0).later J,fun g F=>?_⟩,G,W⟩
 by_cases u:g < w.heap.size
 ·have:=J.size; omega
 ·by_cases z:g < w'.heap.size
  ·exact z
  ·exact absurd (Y g u z) F
structure Me (W0:World) (base:Nat) (col0:Nat→Nat) (x:Wp) (n b r:Nat) (w:World) (col:Nat→Nat) (s:Ws) (cs:List Value):Prop where
 wv:Wv base col w x s
 vb:Vb w b (n+1) cs
 tr:w.there r 0 (n+1)
 cb:col b=8
 cr:col r=8
 ne:b≠r
 nb:W0.heap.size≤b
 nr:W0.heap.size≤r
 el:El W0 col0 col
 fw:Fw col0 W0 w
abbrev Mpost (base:Nat) (col0:Nat→Nat) (x:Wp) (W0:World) (s:Ws) (v:Value) (e:Ending) (w':World):Prop:=
 e=.returned v ∧ ∃ col',Wv base col' w' x s∧Fw col0 W0 w'∧El W0 col0 col'
section
variable {W0 w w':World} {base:Nat} {col0 col col':Nat→Nat} {x:Wp} {n b r:Nat} {s s':Ws} {cs cs':List Value}
theorem Me.start (h:Wv base col0 W0 x s) (z:Below W0.heap.size W0 w) (J:w.heap.size=W0.heap.size+2) (hv:Vb w W0.heap.size (n+1) cs) (I:w.there (W0.heap.size+1) 0 (n+1)) :
  ∃ col,Me W0 base col0 x n W0.heap.size (W0.heap.size+1) w col s cs:=by
 obtain ⟨col,F,G,u⟩:=h.var8 z
 exact ⟨col,F,hv,I,u _ (Nat.le_refl _) (by omega),u _ (by omega) (by omega),by omega,Nat.le_refl _,by omega,G,Fz.of_below z⟩
theorem Me.later (h:Me W0 base col0 x n b r w col s cs) (u:Below w.heap.size w w'):Me W0 base col0 x n b r w' col s cs:=
 ⟨h.wv.later u,h.vb.later u,tb_later h.tr u,h.cb,h.cr,h.ne,h.nb,h.nr,h.el,fw_two h.fw h.el (Fz.of_below u)⟩
theorem Me.call (h:Me W0 base col0 x n b r w col s cs) (F:Wv base col' w' x s') (z:Fw col w w') (u:El w col col'):Me W0 base col0 x n b r w' col' s' cs:=
 ⟨F,h.vb.blk (z.block b h.vb.lt (fun e=>e.2 h.cb)),tb_blk h.tr (z.block r (tb_lt h.tr) (fun e=>e.2 h.cr)),(u b h.vb.lt).trans h.cb,(u r (tb_lt h.tr)).trans h.cr,h.ne,h.nb,h.nr,h.el.trans u h.fw.size,fw_two h.fw h.el z⟩
theorem Me.call0 (h:Me W0 base col0 x n b r w col s cs) (u:Wv base col w' x s') (z:Fw col w w'):Me W0 base col0 x n b r w' col s' cs:=h.call u z (El.refl _ _)
theorem Me.put (h:Me W0 base col0 x n b r w col s cs) (hv:Vb w' b (n+1) cs') (u:Fz (fun k=>k=b) w w'):Me W0 base col0 x n b r w' col s cs':=
 ⟨h.wv.aside u (fun g _ e=>e ▸ h.cb),hv,tb_blk h.tr (u.block r (tb_lt h.tr) (fun e=>h.ne e.symm)),h.cb,h.cr,h.ne,h.nb,h.nr,h.el,
  ⟨u.os.trans h.fw.os,u.tape.trans h.fw.tape,u.output.trans h.fw.output,Nat.le_trans h.fw.size u.size,fun k hk hc=>(u.block k (Nat.lt_of_lt_of_le hk h.fw.size) (fun e=>by have:=h.nb; omega)).trans (h.fw.block k hk hc)⟩⟩
theorem Me.set (h:Me W0 base col0 x n b r w col s cs) (j:Nat) (z:j < n+1) (u:Value):Me W0 base col0 x n b r (w.setCell ⟨b,j,none⟩ u) col s (cs.set j u):=
 h.put (h.vb.set j (by rw [h.vb.len]; exact z) u) (Fz.of_set (C:=fun k=>k=b) (a:=⟨b,j,none⟩) u rfl)
theorem Me.free (h:Me W0 base col0 x n b r w col s cs) (j:Nat) (u:j < n+1):w.frozen? ⟨b,j,none⟩=false:=h.vb.free j u
theorem Me.ret (h:Me W0 base col0 x n b r w col s cs) (u:Fz (fun k=>k=r) w w'):∃ col',Wv base col' w' x s∧Fw col0 W0 w'∧El W0 col0 col':=
 ⟨col,h.wv.aside u (fun g _ e=>e ▸ h.cr),
  ⟨u.os.trans h.fw.os,u.tape.trans h.fw.tape,u.output.trans h.fw.output,Nat.le_trans h.fw.size u.size,fun k hk hc=>(u.block k (Nat.lt_of_lt_of_le hk h.fw.size) (fun e=>by have:=h.nr; omega)).trans (h.fw.block k hk hc)⟩,h.el⟩
end
structure Mp (W0:World) (n b r:Nat) (w:World) (cs:List Value):Prop where
 vb:Vb w b (n+1) cs
 tr:w.there r 0 (n+1)
 ne:b≠r
 nb:W0.heap.size≤b
 nr:W0.heap.size≤r
 bl:Below W0.heap.size W0 w
section
variable {W0 w w':World} {n b r:Nat} {cs cs':List Value}
theorem Mp.start (h:Below W0.heap.size W0 w) (z:w.heap.size=W0.heap.size+2) (hv:Vb w W0.heap.size (n+1) cs) (u:w.there (W0.heap.size+1) 0 (n+1)) :
  Mp W0 n W0.heap.size (W0.heap.size+1) w cs:=⟨hv,u,by omega,Nat.le_refl _,by omega,h⟩
theorem Mp.later (h:Mp W0 n b r w cs) (u:Below w.heap.size w w'):Mp W0 n b r w' cs:=
 ⟨h.vb.later u,tb_later h.tr u,h.ne,h.nb,h.nr,h.bl.trans (u.mono h.bl.size)⟩
theorem Mp.put (h:Mp W0 n b r w cs) (hv:Vb w' b (n+1) cs') (u:Fz (fun k=>k=b) w w'):Mp W0 n b r w' cs':=
 ⟨hv,tb_blk h.tr (u.block r (tb_lt h.tr) (fun e=>h.ne e.symm)),h.ne,h.nb,h.nr,h.bl.trans (u.below h.bl.size (fun k hk=>by have:=h.nb; omega))⟩
theorem Mp.set (h:Mp W0 n b r w cs) (j:Nat) (z:j < n+1) (u:Value):Mp W0 n b r (w.setCell ⟨b,j,none⟩ u) (cs.set j u):=
 h.put (h.vb.set j (by rw [h.vb.len]; exact z) u) (Fz.of_set (C:=fun k=>k=b) (a:=⟨b,j,none⟩) u rfl)
theorem Mp.free (h:Mp W0 n b r w cs) (j:Nat) (u:j < n+1):w.frozen? ⟨b,j,none⟩=false:=h.vb.free j u
theorem Mp.ret (h:Mp W0 n b r w cs) (u:Fz (fun k=>k=r) w w'):Below W0.heap.size W0 w':=
 h.bl.trans (u.below h.bl.size (fun k hk=>by have:=h.nr; omega))
end
structure Lr (base:Nat) (col:Nat→Nat) (w:World) (A:Option Addr) (n c:Nat) (S:List Int):Prop where
 rd:Rd (Value.int .u64) w w.heap.size A n c S
 c0:0 < n → ∀ b o,A=some ⟨b,o,none⟩→col b=0∧base≤b
 nd:S.Nodup
 us:Sn.U64s S
section
variable {base:Nat} {col col':Nat→Nat} {w w':World} {A:Option Addr} {n c:Nat} {S:List Int} {x:Wp} {s:Ws}
theorem Lr.nil_:Lr base col w none 0 0 []:=⟨Rd.nil_,fun h=>absurd h (by omega),List.nodup_nil,fun _ h=>by cases h⟩
theorem Lr.later (h:Lr base col w A n c S) (u:Below w.heap.size w w'):Lr base col w' A n c S:=⟨h.rd.later u,h.c0,h.nd,h.us⟩
theorem Lr.fz {E:Nat→Prop} (h:Lr base col w A n c S) (z:Fz E w w') (F:∀ g,E g→col g≠0):Lr base col w' A n c S:=
 ⟨rd_blk h.rd z.size (fun hn b o e=>by
  obtain ⟨b',J,u,I,-⟩:=h.rd.at_ hn
  rw [e] at u; injection u with u; injection u with e1
  exact z.block b (by omega) (fun G=>F b G (h.c0 hn b o e).1)),h.c0,h.nd,h.us⟩
theorem Lr.el (h:Lr base col w A n c S) (z:El w col col'):Lr base col' w A n c S:=
 ⟨h.rd,fun hn b o e=>by
  obtain ⟨b',G,u,F,-⟩:=h.rd.at_ hn
  rw [e] at u; injection u with u; injection u with e1
  exact ⟨(z b (by omega)).trans (h.c0 hn b o e).1,(h.c0 hn b o e).2⟩,h.nd,h.us⟩
theorem Lr.fw (h:Lr base col w A n c S) (I:Fw col w w') (G:El w col col'):Lr base col' w' A n c S:=by
 have z:=h.fz I (fun g F=>F.1)
 refine ⟨z.rd,fun hn b o e=>?_,z.nd,z.us⟩
 obtain ⟨b',W,u,J,-⟩:=h.rd.at_ hn
 rw [e] at u; injection u with u; injection u with e2
 exact ⟨(G b (by omega)).trans (h.c0 hn b o e).1,(h.c0 hn b o e).2⟩
theorem Lr.snap (h:Lr base col w A n c S):Sn.Snap w w.heap.size (.agg #[.slice A n c]) S:=⟨⟨A,n,c,rfl,h.rd⟩,h.nd,h.us⟩
def atB (S:List Int) (p:Int):Bool:=decide (0≤p∧p < S.length)
def atI (S:List Int) (p:Int):Int:=if 0≤p∧p < S.length then (S[p.toNat]?).getD 0 else 0
theorem sat_any (w:World) (h:Lr base col w A n c S) (p:Int) :
  Calls Tryz.prog 192 #[.agg #[.slice A n c],.int .i64 p] w fun e w'=>e=.returned (.tuple #[.int .u64 (atI S p),.bool (atB S p)])∧Below w.heap.size w w':=by
 by_cases hp:0≤p∧p < S.length
 ·obtain ⟨k,rfl⟩:∃ k:Nat,p=k:=⟨p.toNat,by omega⟩
  have hk:k < S.length:=by omega
  have e:=Sn.at_in _ S k S[k] w.heap.size w h.snap (Nat.le_refl _) (List.getElem?_eq_getElem hk)
  have u:atI S k=S[k]:=by
   unfold atI; rw [if_pos hp,Int.toNat_natCast,List.getElem?_eq_getElem hk]; rfl
  have z:atB S k=true:=by unfold atB; exact decide_eq_true hp
  rw [u,z]
  exact e
 ·have e:=Sn.at_out _ S p w.heap.size w h.snap (by omega)
  have u:atI S p=0:=by unfold atI; rw [if_neg hp]
  have z:atB S p=false:=by unfold atB; exact decide_eq_false hp
  rw [u,z]
  exact e
theorem wlist_any (h:Wv base col w x s):Calls Tryz.prog 21 #[ptr x.pb] w fun e w'=>∃ A n c,e=.returned (.agg #[.slice A n c])∧Lr base col w' A n c s.S∧Below w.heap.size w w':=by
 have I:=h.bag
 obtain ⟨L,u,J⟩:=I
 refine (list_any w x.pb x.ab L s.S u).mono ?_
 rintro e w' ⟨A,n,c,rfl,F,G,z⟩
 exact ⟨A,n,c,rfl,⟨F.later z,G,u.nd,u.us⟩,z⟩
theorem Me.retL {W0:World} {col0:Nat→Nat} {m b r:Nat} {cs:List Value} (h:Me W0 base col0 x m b r w col s cs) (u:Fz (fun k=>k=r) w w') (z:Lr base col w A n c S) :
  ∃ col',Wv base col' w' x s∧Fw col0 W0 w'∧El W0 col0 col'∧Lr base col' w' A n c S:=
 ⟨col,h.wv.aside u (fun g _ e=>e ▸ h.cr),
  ⟨u.os.trans h.fw.os,u.tape.trans h.fw.tape,u.output.trans h.fw.output,Nat.le_trans h.fw.size u.size,fun k hk hc=>(u.block k (Nat.lt_of_lt_of_le hk h.fw.size) (fun e=>by have:=h.nr; omega)).trans (h.fw.block k hk hc)⟩,h.el,
  z.fz u (fun g e=>by rw [e,h.cr]; decide)⟩
end
abbrev Lpost (base:Nat) (col0:Nat→Nat) (x:Wp) (W0:World) (s:Ws) (S:List Int) (f:Option Addr→Nat→Nat→Value) (e:Ending) (w':World):Prop:=
 ∃ A n c,e=.returned (f A n c) ∧ ∃ col',Wv base col' w' x s∧Fw col0 W0 w'∧El W0 col0 col'∧Lr base col' w' A n c S
end Go.Proofs.YtoiklelghfckgaaGreatDoor.Wo
namespace Go.Proofs.YtoiklelghfckgaaGreatDoor.Rw
open Go Go.ChangeShapes Go.WideShapes Go.ChangeAt Go.RowKit Go.Deep Hi Ba
theorem ra_sub {w:World} {g:Nat} {cs:List Value} (h:w.rangeAt g 0 cs) (o:Nat) (vs:List Value) (k:Nat) (hv:vs=(cs.drop o).take k):w.rangeAt g o vs:=fun j u z=>by
 have F:cs[o+j]? = some u:=by
  rw [hv,List.getElem?_take] at z
  split at z
  ·rwa [List.getElem?_drop] at z
  ·cases z
 have:=h (o+j) u F
 rwa [Nat.zero_add] at this
theorem th_sub {w:World} {g n:Nat} (h:w.there g 0 n) (o k:Nat) (hk:o+k≤n):w.there g o k:=fun j u=>by
 have:=h (o+j) (by omega)
 rwa [Nat.zero_add] at this
def setL:List Value→Nat→List Value→List Value
 | cs,_,[]=>cs
 | cs,o,v :: r=>setL (cs.set o v) (o+1) r
section
variable {T:TypeId} {n:Nat} (hT:RowT T n) {ops:Array Oper} {rest:List Oper} {op:Oper} {a:Act} {w:World} {Q:Exit→Act→World→Prop}
include hT
theorem load_s (u:op.guard=none) (x:Operand) (F:op.op=.load T x) (g o:Nat) (hx:a.eval x=.pointer (some ⟨g,o,none⟩)) (cs:List Value) (hv:w.rangeAt g o cs) (z:cs.length=n)
  (h:wpList Tryz.prog ops Q rest (a.put op.dst (.agg cs.toArray)) w):wpList Tryz.prog ops Q (op :: rest) a w:=
 wpList_load_mid u T x F g o hx _ _ hv hT.under hT.row (by rw [z]; exact hT.info) h
theorem store_s (z:op.guard=none) (x y:Operand) (G:op.op=.store T x y) (g o:Nat) (hx:a.eval x=.pointer (some ⟨g,o,none⟩)) (cs:List Value) (J:a.eval y=.agg cs.toArray) (I:w.there g o n) (F:cs.length=n) (u:cs.toArray.all (·.oneCell')=true)
  (h:∀ w',w'=w.setCells g o cs→wpList Tryz.prog ops Q rest (a.put op.dst undef) w'):wpList Tryz.prog ops Q (op :: rest) a w:=by
 subst F
 exact wpList_store_mid z T x y G g o cs.toArray hx J I hT.info u (h _ rfl)
end
end Go.Proofs.YtoiklelghfckgaaGreatDoor.Rw
namespace Go.Proofs.YtoiklelghfckgaaGreatDoor.Wo
open Go Go.ChangeShapes Go.WideShapes Go.ChangeAt Go.RowKit Go.Deep Go.Maps Rw Hi Mt Ba
theorem rt_give:RowT 66 5:=⟨by kernel_rfl,by kernel_rfl,by kernel_rfl⟩
section
variable {W0:World} {base:Nat} {col0 col:Nat→Nat} {x:Wp} {n b r:Nat} {s:Ws}
theorem Me.sets:∀ (vs:List Value) (o:Nat) (w:World) (cs:List Value),Me W0 base col0 x n b r w col s cs→o+vs.length≤n+1→Me W0 base col0 x n b r (w.setCells b o vs) col s (setL cs o vs)
 | [],_,_,_,h,_=>h
 | v :: q,o,w,cs,h,hl=>by
  rw [World.setCells,setL]
  simp only [List.length_cons] at hl
  exact Me.sets q (o+1) _ _ (h.set o (by omega) v) (by omega)
theorem Mp.sets:∀ (vs:List Value) (o:Nat) (w:World) (cs:List Value),Mp W0 n b r w cs→o+vs.length≤n+1→Mp W0 n b r (w.setCells b o vs) (setL cs o vs)
 | [],_,_,_,h,_=>h
 | v :: q,o,w,cs,h,hl=>by
  rw [World.setCells,setL]
  simp only [List.length_cons] at hl
  exact Mp.sets q (o+1) _ _ (h.set o (by omega) v) (by omega)
end
def dnB (g:Gv):Bool:=g.st.toList == [100,111,110,101]
theorem gdn_any (g:Gv) (w:World):Calls Tryz.prog 123 #[.agg g.cells.toArray] w fun e w'=>e=.returned (.bool (dnB g))∧Below w.heap.size w w':=gdone_any g w
theorem goff_any (th op id word:Int) (w:World):Calls Tryz.prog 122 #[.int .i64 th,.int .i64 op,.int .u64 id,.int .u64 word] w fun e w'=>e=.returned (.agg (Gv.cells ⟨th,op,id,word,sOffer⟩).toArray)∧Below w.heap.size w w':=by
 obtain ⟨W1,h,F,u,S1⟩:=box_b 66 [.int .i64 0,.int .i64 0,.int .u64 0,.int .u64 0,.string ⟨#[]⟩] w rfl
 have h:w.alloc (.cells #[.int .i64 0,.int .i64 0,.int .u64 0,.int .u64 0,.string ⟨#[]⟩] 66)=W1:=h
 have J:=Lh F.th
 have z:=Lh u
 clear F u
 go_enter Tryz.func122,Tryz.ntmps122
 go_upto_region 1 with (fail)
 clear h
 go_wp2_with (first
  | (refine store_b rt_give rfl _ _ rfl w.heap.size rfl (Gv.cells ⟨th,op,id,word,sOffer⟩) rfl J.out rfl (by kernel_rfl) ?_; intro w9 G I; have W:=Lh G; have Y:=Lh I; clear G I))
 exact bodyPost_ret (v:=(.agg (Gv.cells ⟨th,op,id,word,sOffer⟩).toArray)) (res_b rt_give _ _ w.heap.size _ Tryz.results122 rfl W.out) rfl ⟨rfl,z.out.trans (Y.out.below z.out.size (fun k hk=>by omega))⟩
end Go.Proofs.YtoiklelghfckgaaGreatDoor.Wo
namespace Go.Proofs.YtoiklelghfckgaaGreatDoor.Wo
open Go.ChangeShapes Go.WideShapes Go.ChangeAt Go.RowKit Rw
theorem info_str:(Tryz.prog.info? 9).map (fun i=>(i.zero,i.size,i.bytes))=some (some (.string ⟨#[]⟩),1,16):=by kernel_rfl
theorem strequal_same (A A':Option Addr) (n c z:Nat) (xs:List ByteArray) (B B':Nat) (w:World) (h:Rd Value.string w B A n c xs) (F:Rd Value.string w B' A' n z xs) :
  Calls Tryz.prog 32 #[.slice A n c,.slice A' n z] w fun e w'=>e=.returned (.bool true) ∧ ∃ q,w.drewN q=w':=by
 have hn:n≤9223372036854775807:=by have:=h.cap; have:=h.top; omega
 have G:=Lh h
 have I:=Lh F
 clear h F
 go_enter Tryz.func32,Tryz.ntmps32
 go_wp2
 go_loopw [5,13] (fun _ i wr=>∃ k q:Nat,k≤n∧i=.int .i64 k∧wr=w.drewN q) (fun _ i _=>n - (intOf i).toNat)
 case atStart=>exact ⟨0,0,Nat.zero_le _,rfl,rfl⟩
 case round=>
  obtain ⟨k,q,hk,rfl,rfl⟩:=hrel
  by_cases hlt:k < n
  ·obtain ⟨b,o,x,rfl,J,hx,Y⟩:=G.out.get hlt
   obtain ⟨b',o',y,rfl,W,u,a0⟩:=I.out.get hlt
   obtain rfl:x=y:=by rw [hx] at u; injection u
   clear hx u
   go_wp2
   go_quiet (fail)
   go_wp2
   go_roundw
   case rel=>exact ⟨k+1,_,by omega,by go_num,rfl⟩
   case measure=>simp [intOf]; omega
  ·have a1:k=n:=by omega
   go_wp2
   go_ret
   exact ⟨rfl,_,rfl⟩
end Go.Proofs.YtoiklelghfckgaaGreatDoor.Wo
