/- A part of the claim: the texts AwakeKit. -/
import Derived.Test.YtoiklelghfckgaaGreatDoorZGMeth
import Derived.Test.YtoiklelghfckgaaGreatDoorZAwake17
set_option linter.unusedVariables false
namespace Go.Proofs.YtoiklelghfckgaaGreatDoor.Wo
open Go Go.ChangeShapes Go.WideShapes Go.ChangeAt Go.RowKit Go.Deep Go.Maps Rw Hi Mt Ba
open Cn (Cf cfE)
theorem Wv.aside8 {E:Nat→Prop} {base:Nat} {col:Nat→Nat} {w w':World} {x:Wp} {s:Ws} (h:Wv base col w x s) (Q:Fz E w w') (hE:∀ g,g < w.heap.size→E g→col g=8) :
  ∃ col',Wv base col' w' x s∧El w col col' ∧ ∀ g,w.heap.size≤g→g < w'.heap.size→col' g=8:=by
 have a1:=h.base_le
 obtain ⟨col',J⟩:∃ col':Nat→Nat,col'=fun g=>if g < w.heap.size then col g else if g < w'.heap.size then 8 else 0:=⟨_,rfl⟩
 have I:∀ g,g < w.heap.size→col' g=col g:=fun g u=>by rw [J]; exact if_pos u
 have Y:∀ g,w.heap.size≤g→g < w'.heap.size→col' g=8:=fun g z G=>by rw [J]; show (if g < w.heap.size then col g else if g < w'.heap.size then 8 else 0)=8; rw [if_neg (by omega),if_pos G]
 have e3:∀ g,¬ g < w.heap.size → ¬ g < w'.heap.size→col' g=0:=fun g z G=>by rw [J]; show (if g < w.heap.size then col g else if g < w'.heap.size then 8 else 0)=0; rw [if_neg z,if_neg G]
 obtain ⟨r,q,h,hi⟩:=h
 have a0:∀ g,col' g≠0→base≤g:=fun g u=>by
  by_cases z:g < w.heap.size
  ·rw [I g z] at u; exact h.lo g u
  ·omega
 have h:=h.recol I a0
 have F:Fz (fun g=>col' g=8) w w':=Q.mono fun g u he=>(I g u).trans (hE g u he)
 refine ⟨col',⟨r,q,⟨h.cells_aside F (by decide),h.bag_aside F (by decide) (by decide),h.loc_aside F (by decide) (by decide),h.slots_aside F (by decide),h.book_aside F (by decide),h.fact_aside F (by decide),h.hist_aside F (by decide),h.kl,h.ks,h.kb,h.kf,h.kh,h.kw,h.lo⟩,fun g u=>?_⟩,I,Y⟩
 by_cases z:g < w.heap.size
 ·exact Nat.lt_of_lt_of_le z Q.size
 ·by_cases G:g < w'.heap.size
  ·exact G
  ·exact absurd (e3 g z G) u
theorem fz_grown {w w':World} {row:Option Nat} (h:w.grownBy w' row):Fz (fun g=>row=some g) w w':=⟨h.os,h.tape,h.output,h.size,fun k hk hn=>h.block k hk (fun e=>hn e.symm)⟩
theorem there_alloc (T:TypeId) (zs:List Value) (w:World):(w.alloc (.cells zs.toArray T)).there w.heap.size 0 zs.length:=by
 obtain ⟨W,e,h,-,-⟩:=box_b (n:=zs.length) T zs w rfl
 rw [e]; exact h.th
def lenOf (v:Value):Nat:=match v with
 | .slice _ n _=>n
 | _=>0
theorem lenOf_slice (A:Option Addr) (n c:Nat):lenOf (.slice A n c)=n:=rfl
structure Aw (W:World) (base:Nat) (col:Nat→Nat) (x:Wp) (n gb:Nat) (w:World) (s:Ws) (cs:List Value) (A:Option Addr) (k c:Nat) (ss:List ByteArray):Prop where
 wv:Wv base col w x s
 vb:Vb w gb (n+1) cs
 cb:col gb=8
 own:w.ownsRow W.heap.size 9 1 (.slice A k c) k (ss.map Value.string)
 oc:∀ g,(Value.slice A k c).ownBlock=some g→col g=8∧g≠gb
 bl:Below W.heap.size W w
 gbl:W.heap.size≤gb
 bs:W.heap.size≤base
section
variable {W w w':World} {base:Nat} {col col':Nat→Nat} {x:Wp} {n gb:Nat} {s s':Ws} {cs cs':List Value} {A:Option Addr} {k c:Nat} {ss:List ByteArray}
theorem Aw.olt (h:Aw W base col x n gb w s cs A k c ss):∀ g,(Value.slice A k c).ownBlock=some g→g < w.heap.size:=fun g u=>(h.own.lt g u).2
theorem Aw.same (h:Aw W base col x n gb w s cs A k c ss) (hw:Wv base col' w' x s') (F:Below W.heap.size W w') (hc:col' gb=8) (hv:Vb w' gb (n+1) cs') (z:∀ g,(Value.slice A k c).ownBlock=some g→col' g=8∧w'.heap[g]? = w.heap[g]?):Aw W base col' x n gb w' s' cs' A k c ss:=
 ⟨hw,hv,hc,own_same h.own (fun g u=>(z g u).2),fun g u=>⟨(z g u).1,(h.oc g u).2⟩,F,h.gbl,h.bs⟩
theorem Aw.later (h:Aw W base col x n gb w s cs A k c ss) (u:Below w.heap.size w w'):Aw W base col x n gb w' s cs A k c ss:=
 h.same (h.wv.later u) (h.bl.trans (u.mono h.bl.size)) h.cb (h.vb.later u) (fun g z=>⟨(h.oc g z).1,u.block g (h.olt g z)⟩)
theorem Aw.call (h:Aw W base col x n gb w s cs A k c ss) (G:Wv base col' w' x s') (z:Fw col w w') (F:El w col col'):Aw W base col' x n gb w' s' cs A k c ss:=
 h.same G (h.bl.trans (z.below h.bl.size (fun g u=>Nat.le_trans h.bs (h.wv.lo g u.1)))) ((F gb h.vb.lt).trans h.cb) (h.vb.blk (z.block gb h.vb.lt (fun e=>e.2 h.cb)))
  (fun g u=>⟨(F g (h.olt g u)).trans (h.oc g u).1,z.block g (h.olt g u) (fun e=>e.2 (h.oc g u).1)⟩)
theorem Aw.put (h:Aw W base col x n gb w s cs A k c ss) (hv:Vb w' gb (n+1) cs') (z:Fz (fun k=>k=gb) w w'):Aw W base col x n gb w' s cs' A k c ss:=
 h.same (h.wv.aside z (fun g _ e=>e ▸ h.cb)) (h.bl.trans (z.below h.bl.size (fun g u=>u ▸ h.gbl))) h.cb hv (fun g u=>⟨(h.oc g u).1,z.block g (h.olt g u) (h.oc g u).2⟩)
theorem Aw.grow (h:Aw W base col x n gb w s cs A k c ss) (y:ByteArray) {A':Option Addr} {F:Nat} (I:w'.ownsRow W.heap.size 9 1 (.slice A' (k+1) F) (k+1) ((ss ++ [y]).map Value.string)) (G:w.grownBy w' (Value.slice A k c).ownBlock)
  (a0:(Value.slice A' (k+1) F).ownBlock=(Value.slice A k c).ownBlock∨(Value.slice A' (k+1) F).ownBlock=some w.heap.size):∃ col',Aw W base col' x n gb w' s cs A' (k+1) F (ss ++ [y])∧El w col col' ∧ ∀ A n c S,Lr base col w A n c S→Lr base col' w' A n c S:=by
 obtain ⟨col',J,z,Q⟩:=h.wv.aside8 (fz_grown G) (fun g _ e=>(h.oc g e).1)
 refine ⟨col',⟨J,h.vb.blk (G.block gb h.vb.lt (fun e=>(h.oc gb e.symm).2 rfl)),(z gb h.vb.lt).trans h.cb,I,fun g u=>?_,?_,h.gbl,h.bs⟩,z,fun A n c S Y=>(Y.el z).fz (fz_grown G) (fun g e=>by have:=(z g (h.olt g e)).trans (h.oc g e).1; omega)⟩
 ·rcases a0 with e | e
  ·rw [e] at u
   exact ⟨(z g (h.olt g u)).trans (h.oc g u).1,(h.oc g u).2⟩
  ·have a1:=(I.lt g u).2
   rw [e] at u
   injection u with u
   subst u
   exact ⟨Q _ (Nat.le_refl _) a1,fun e2=>by have:=h.vb.lt; omega⟩
 ·refine h.bl.grown G h.bl.size (fun j hj=>(h.own.lt j hj).1)
end
theorem rd_lit {α:Type} {enc:α→Value} (w:World) (xs:List α) (n:Nat) (hn:xs.length=n) (u:n≤9223372036854775807) (t:TypeId):Rd enc (w.alloc (.cells (xs.map enc).toArray t)) (w.heap.size+1) (some ⟨w.heap.size,0,none⟩) n n xs:=
 ⟨hn,Nat.le_refl _,u,fun _=>⟨w.heap.size,0,rfl,by omega,fun j x hx=>by
  have h:(w.alloc (.cells (xs.map enc).toArray t)).heap[w.heap.size]? = some (.cells (xs.map enc).toArray t):=heap_alloc_last _ _
  rw [Nat.zero_add,cell_of_row _ _ _ _ _ _ h]
  simp [hx]⟩⟩
theorem Awake17_any (W:World) (h:Tb.Tabs W):Calls Tryz.prog 31 #[] W fun e w'=>e=.returned (.bool true)∧Below W.heap.size W w':=by
 have H:=Lh (awake17_any W h)
 clear h
 go_enter Tryz.func31,Tryz.ntmps31
 go_wp2_with fail
 refine H.out.mono ?_
 rintro e u ⟨rfl,b1⟩
 go_wp2_with fail
 go_ret
 exact ⟨rfl,b1⟩
end Go.Proofs.YtoiklelghfckgaaGreatDoor.Wo
