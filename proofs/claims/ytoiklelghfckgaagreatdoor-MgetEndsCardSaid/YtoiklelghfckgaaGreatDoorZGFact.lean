/- A part of the claim: the texts FactOpen FactRef FactRefK. -/
import Derived.Test.YtoiklelghfckgaaGreatDoorZGFr
import Derived.Test.YtoiklelghfckgaaGreatDoorZBase3
import Derived.Test.YtoiklelghfckgaaGreatDoorZBase1
import Derived.Test.YtoiklelghfckgaaGreatDoorZGKeep
import Derived.RegionTactic
set_option maxRecDepth 100000
set_option maxHeartbeats 8000000
set_option linter.unusedVariables false
namespace Go.Proofs.YtoiklelghfckgaaGreatDoor.Fc
open Go Go.ChangeShapes Go.WideShapes Go.ChangeAt Go.RowKit Go.Deep Go.Maps Rw
section
variable {H:Type} {en:TypeId × Value→H} {P:Program} {w:World} {base:Nat} {spare:Nat→Bool} {held:Bool}
end
structure Ac where
 do_:Int
 id:Int
structure Ac.ok (a:Ac):Prop where
 do_:0≤a.do_∧a.do_≤255
 id:0≤a.id∧a.id≤18446744073709551615
end Go.Proofs.YtoiklelghfckgaaGreatDoor.Fc
namespace Go.Proofs.YtoiklelghfckgaaGreatDoor.Fc
open Go.ChangeShapes Go.WideShapes Go.ChangeAt Go.RowKit Go.Maps Rw
structure Rn (w:World) (p m:Nat) (A:Option Addr) (n c:Nat) (O:List Bool):Prop where
 rd:Rd Value.bool w w.heap.size A n c O
 ne:0 < n → ∀ g o,A=some ⟨g,o,none⟩→g≠p∧g≠m
theorem Rn.nil_ (w:World) (p m:Nat):Rn w p m none 0 0 []:=⟨Rd.nil_,fun h=>absurd h (by omega)⟩
theorem Rn.below {w w':World} {p m:Nat} {A:Option Addr} {n c:Nat} {O:List Bool} (h:Rn w p m A n c O) (u:Below w.heap.size w w'):Rn w' p m A n c O:=⟨h.rd.later u,h.ne⟩
theorem Rn.fr {w w':World} {p m:Nat} {A:Option Addr} {n c:Nat} {O:List Bool} (h:Rn w p m A n c O) (z:Hi.Fr (some p) (some m) w w'):Rn w' p m A n c O:=
 ⟨⟨h.rd.len,h.rd.cap,h.rd.top,fun hn=>by
  obtain ⟨b,o,e,u,hc⟩:=h.rd.at_ hn
  obtain ⟨F,n2⟩:=h.ne hn b o e
  exact ⟨b,o,e,Nat.lt_of_lt_of_le u z.size,fun j x hx=>(z.cell (p:=⟨b,o+j,none⟩) u (fun e=>F (by injection e)) (fun e=>n2 (by injection e))).trans (hc j x hx)⟩⟩,h.ne⟩
theorem Rn.of_own {w:World} {base p m:Nat} {A:Option Addr} {n c:Nat} {O:List Bool} (h:w.ownsRow base 4 1 (.slice A n c) n (O.map Value.bool)) (J:p < base) (I:m < base):Rn w p m A n c O:=by
 refine ⟨Rd.own_rd h,fun hn g o e=>?_⟩
 have:=(h.lt g (by
  rw [e]; rcases h.2 with ⟨u,F⟩ | ⟨G,cap,z,u,_⟩
  ·omega
  ·injection u with u _ _
   rw [e] at u
   injection u with u
   injection u with u e2
   subst e2
   rfl)).1
 omega
theorem Rd.app {w:World} {A:Option Addr} {n c:Nat} {O:List Bool} (h:Rd Value.bool w w.heap.size A n c O):n≤9223372036854775807:=by have:=h.cap; have:=h.top; omega
theorem rnext_any (A:Option Addr) (n c p m:Nat) (O:List Bool) (w:World) (h:Rn w p m A n c O) :
  Calls Tryz.prog 129 #[.slice A n c] w fun e w'=>∃ A' n' z q,e=.returned (.tuple #[.slice A' n' z,.bool (nx O).1])∧(∀ W,Rn W p m A n c O→Rn W p m A' n' z (nx O).2)∧w.drewN q=w':=by
 cases O with
 | nil=>
  obtain rfl:0=n:=h.rd.len
  clear h
  go_enter Tryz.func129,Tryz.ntmps129
  go_wp2_with fail
  exact bodyPost_ret (v:=.tuple #[.slice none 0 0,.bool true]) (by simp [results,Tryz.results129,go_sem]) rfl ⟨none,0,0,0,rfl,fun W _=>Rn.nil_ W p m,rfl⟩
 | cons x l=>
  have hn:(x :: l).length=n:=h.rd.len
  simp at hn
  have a0:=h.rd.cap
  have a1:=h.rd.top
  obtain ⟨g,o,y,rfl,Q,hx,F⟩:=h.rd.get (k:=0) (by omega)
  obtain rfl:x=y:=by simpa using hx
  have hz:((n:Int) == 0)=false:=by simp; omega
  have a2:(n == 0)=false:=by simp; omega
  have Y:1≤n:=by omega
  simp only [Nat.add_zero] at F
  have G:=Lh h
  clear h hx hn
  by_cases hc1:c=1
  ·subst hc1
   obtain rfl:n=1:=by omega
   go_enter Tryz.func129,Tryz.ntmps129
   go_wp2_with fail
   go_region
   go_wp2_with fail
   exact bodyPost_ret (v:=.tuple #[.slice (some ⟨g,o,none⟩) 0 0,.bool x]) (by simp [results,Tryz.results129,go_sem]) rfl ⟨_,_,_,1,rfl,fun W u=>⟨u.rd.back (i:=1) (A':=some ⟨g,o,none⟩) (by omega) rfl (by omega),fun hk=>absurd hk (by omega)⟩,rfl⟩
  ·have J:1 < c:=by omega
   go_enter Tryz.func129,Tryz.ntmps129
   go_wp2_with fail
   go_region
   go_wp2_with fail
   exact bodyPost_ret (v:=.tuple #[.slice (some ⟨g,o+1,none⟩) (n - 1) (c - 1),.bool x]) (by simp [results,Tryz.results129,go_sem]) rfl ⟨_,_,_,1,rfl,fun W u=>⟨u.rd.back (i:=1) (A':=some ⟨g,o+1,none⟩) (by omega) rfl (fun _=>rfl),fun _ I o' e=>by
    injection e with e
    injection e with e1 e2
    subst e1
    exact u.ne (by omega) g o rfl⟩,rfl⟩
def Sh (n:Nat) (C:List Int) (S:List Bool):Prop:=S.length=n ∧ ∀ (i:Nat) x,S[i]? = some x→x=decide ((i:Int)+1∈C)
theorem Sh.nil_:Sh 0 [] []:=⟨rfl,fun i x h=>by simp at h⟩
theorem Sh.snoc {n:Nat} {C:List Int} {S:List Bool} (h:Sh n C S) (u:∀ x∈C,1≤x∧x≤n):Sh (n+1) C (S ++ [false]):=by
 refine ⟨by simp [h.1],fun i x hx=>?_⟩
 by_cases hi:i < n
 ·rw [List.getElem?_append_left (by rw [h.1]; exact hi)] at hx
  exact h.2 i x hx
 ·have z:=(List.getElem?_eq_some_iff.1 hx).1
  simp [h.1] at z
  obtain rfl:i=n:=by omega
  rw [List.getElem?_append_right (by rw [h.1]; omega),h.1] at hx
  simp at hx
  subst hx
  symm
  exact decide_eq_false (fun F=>by have:=u _ F; omega)
theorem Sh.shut {n:Nat} {C:List Int} {S:List Bool} (h:Sh n C S) {k:Nat} (hk:k < n):Sh n (C ++ [(k:Int)+1]) (S.set k true):=by
 refine ⟨by simp [h.1],fun i x hx=>?_⟩
 rw [List.getElem?_set] at hx
 split at hx
 ·rename_i e
  subst e
  split at hx
  ·injection hx with hx
   subst hx
   simp
  ·cases hx
 ·rename_i e
  have:=h.2 i x hx
  rw [this]
  congr 1
  simp
  omega
structure Rf (w:World) (p m:Nat) (v:Value) (O P:List Bool) (n:Nat) (C:List Int):Prop where
 form:∃ A1 n1 c1 A2 n2 c2 A3 c3 S,v=.agg #[.slice A1 n1 c1,.slice A2 n2 c2,.slice A3 n c3] ∧ Rn w p m A1 n1 c1 O∧Rn w p m A2 n2 c2 P∧Rn w p m A3 n c3 S∧Sh n C S
theorem Rf.below {w w':World} {p m n:Nat} {v:Value} {O P:List Bool} {C:List Int} (h:Rf w p m v O P n C) (u:Below w.heap.size w w'):Rf w' p m v O P n C:=by
 obtain ⟨z,Q,c1,A2,n2,c2,A3,c3,S,e,F,G,I,J⟩:=h.form
 exact ⟨⟨z,Q,c1,A2,n2,c2,A3,c3,S,e,F.below u,G.below u,I.below u,J⟩⟩
theorem Rf.fr {w w':World} {p m n:Nat} {v:Value} {O P:List Bool} {C:List Int} (h:Rf w p m v O P n C) (u:Hi.Fr (some p) (some m) w w'):Rf w' p m v O P n C:=by
 obtain ⟨z,Q,c1,A2,n2,c2,A3,c3,S,e,F,G,I,J⟩:=h.form
 exact ⟨⟨z,Q,c1,A2,n2,c2,A3,c3,S,e,F.fr u,G.fr u,I.fr u,J⟩⟩
def V3 (w:World) (g:Nat) (a b c:Value):Prop:=(w.cell? ⟨g,0,none⟩=some a∧w.cell? ⟨g,1,none⟩=some b∧w.cell? ⟨g,2,none⟩=some c)∧w.frozen? ⟨g,0,none⟩=false∧w.frozen? ⟨g,1,none⟩=false∧w.frozen? ⟨g,2,none⟩=false
theorem V3.below {w w':World} {g B:Nat} {a b c:Value} (h:V3 w g a b c) (u:Below B w w') (z:g < B):V3 w' g a b c:=
 ⟨⟨(u.cell (p:=⟨g,0,none⟩) z).trans h.1.1,(u.cell (p:=⟨g,1,none⟩) z).trans h.1.2.1,(u.cell (p:=⟨g,2,none⟩) z).trans h.1.2.2⟩,(u.frozen (p:=⟨g,0,none⟩) z).trans h.2.1,(u.frozen (p:=⟨g,1,none⟩) z).trans h.2.2.1,(u.frozen (p:=⟨g,2,none⟩) z).trans h.2.2.2⟩
theorem V3.new (w:World) (a b c:Value) (t:TypeId):V3 (w.alloc (.cells #[a,b,c] t)) w.heap.size a b c:=by
 refine ⟨⟨?_,?_,?_⟩,?_,?_,?_⟩ <;> simp
theorem V3.lt {w:World} {g:Nat} {a b c:Value} (h:V3 w g a b c):g < w.heap.size:=Lw.lt_heap h.1.1
theorem ropen_any (v:Value) (p m n:Nat) (O P:List Bool) (C:List Int) (w:World) (h:Rf w p m v O P n C) (hn:n≤1000) (hC:∀ x∈C,1≤x∧x≤n) (hp:p < w.heap.size) (hm:m < w.heap.size) :
  Calls Tryz.prog 72 #[v] w fun e w'=>∃ v',e=.returned (.tuple #[v',.int .u64 (if (nx O).1 then (n:Int)+1 else 0),.bool (nx O).1])∧Rf w' p m v' (nx O).2 P (if (nx O).1 then n+1 else n) C∧Below w.heap.size w w':=by
 obtain ⟨i0,hi,aA,aB,aC⟩:=info_parts info_bool
 obtain ⟨u,z,c1,A2,n2,c2,A3,c3,S,rfl,h1,h2,h3,h4⟩:=h.form
 have HH:=Lh h
 have H1:=Lh h1
 have H2:=Lh h2
 have H3:=Lh h3
 have H4:=Lh h4
 clear h h1 h2 h3 h4
 have ao:Below w.heap.size w (w.alloc (.cells #[.slice u z c1,.slice A2 n2 c2,.slice A3 n c3] 41)):=(Below.refl _ _).alloc (Nat.le_refl _) _
 have a8:Below w.heap.size w ((w.alloc (.cells #[.slice u z c1,.slice A2 n2 c2,.slice A3 n c3] 41)).alloc (.cells #[.slice none 0 0,.slice none 0 0,.slice none 0 0] 41)):=ao.alloc (by simp) _
 have ay:V3 ((w.alloc (.cells #[.slice u z c1,.slice A2 n2 c2,.slice A3 n c3] 41)).alloc (.cells #[.slice none 0 0,.slice none 0 0,.slice none 0 0] 41)) w.heap.size (.slice u z c1) (.slice A2 n2 c2) (.slice A3 n c3):=(V3.new w _ _ _ _).below ((Below.refl (w.heap.size+1) _).alloc (by simp) _) (by omega)
 have az:V3 ((w.alloc (.cells #[.slice u z c1,.slice A2 n2 c2,.slice A3 n c3] 41)).alloc (.cells #[.slice none 0 0,.slice none 0 0,.slice none 0 0] 41)) (w.heap.size+1) (.slice none 0 0) (.slice none 0 0) (.slice none 0 0):=by have:=V3.new (w.alloc (.cells #[.slice u z c1,.slice A2 n2 c2,.slice A3 n c3] 41)) (.slice none 0 0) (.slice none 0 0) (.slice none 0 0) 41; rw [show (w.alloc (.cells #[.slice u z c1,.slice A2 n2 c2,.slice A3 n c3] 41)).heap.size=w.heap.size+1 by simp] at this; exact this
 have HB:=Lh a8
 have a6:=Lh ay
 have a7:=Lh az
 have ax:((w.alloc (.cells #[.slice u z c1,.slice A2 n2 c2,.slice A3 n c3] 41)).alloc (.cells #[.slice none 0 0,.slice none 0 0,.slice none 0 0] 41)).heap.size=w.heap.size+2:=by simp
 have HC:=Lh hC
 have ad:=Lh a8
 have RN:=rnext_any u z c1 p m O _ (H1.out.below a8)
 have a5:=Lh RN
 clear ao a8 ay az RN hC
 generalize nx O=r at *
 obtain ⟨ok,l⟩:=r
 cases ok
 ·simp only [Bool.false_eq_true,if_false]
  go_enter Tryz.func72,Tryz.ntmps72
  go_wp2_with fail
  refine a5.out.mono ?_
  rintro e J ⟨A',n',G,q,rfl,a4,rfl⟩
  have a2:Below (w.heap.size+2) ((w.alloc (.cells #[.slice u z c1,.slice A2 n2 c2,.slice A3 n c3] 41)).alloc (.cells #[.slice none 0 0,.slice none 0 0,.slice none 0 0] 41)) (((w.alloc (.cells #[.slice u z c1,.slice A2 n2 c2,.slice A3 n c3] 41)).alloc (.cells #[.slice none 0 0,.slice none 0 0,.slice none 0 0] 41)).drewN q):=below_drewN (Below.refl _ _) q
  have a3:=HB.out.trans (below_drewN (Below.refl w.heap.size _) q)
  obtain ⟨⟨f0,f1,f2⟩,g0,g1,g2⟩:=a6.out.below a2 (by omega)
  obtain ⟨⟨r0,r1,r2⟩,e0,e1,e2⟩:=a7.out.below a2 (by omega)
  have aM:(((w.alloc (.cells #[.slice u z c1,.slice A2 n2 c2,.slice A3 n c3] 41)).alloc (.cells #[.slice none 0 0,.slice none 0 0,.slice none 0 0] 41)).drewN q).heap.size=w.heap.size+2:=by simp
  have HN:=Lh a4
  have a1:=Lh a3
  clear HB a2 a6 a7 ax a5 a3 ad a4
  generalize (((w.alloc (.cells #[.slice u z c1,.slice A2 n2 c2,.slice A3 n c3] 41)).alloc (.cells #[.slice none 0 0,.slice none 0 0,.slice none 0 0] 41)).drewN q)=J at *
  go_wp2_with fail
  have a0:Below w.heap.size w ((((J.setCell ⟨w.heap.size,0,none⟩ (.slice A' n' G)).setCell ⟨w.heap.size+1,0,none⟩ (.slice A' n' G)).setCell ⟨w.heap.size+1,1,none⟩ (.slice A2 n2 c2)).setCell ⟨w.heap.size+1,2,none⟩ (.slice A3 n c3)):=by
   repeat' (first | exact a1.out | apply Below.setCell | apply below_drewN | apply Below.drew | apply Below.alloc)
   all_goals (first | (simp; done) | (simp; omega))
  refine bodyPost_ret (v:=.tuple #[.agg #[.slice A' n' G,.slice A2 n2 c2,.slice A3 n c3],.int .u64 0,.bool false]) (by simp [results,Tryz.results72,go_sem,r0,r1,r2]) rfl ⟨_,rfl,⟨⟨_,_,_,_,_,_,_,_,_,rfl,HN.out _ (H1.out.below a0),H2.out.below a0,H3.out.below a0,H4.out⟩⟩,a0⟩
 ·simp only [if_true]
  go_enter Tryz.func72,Tryz.ntmps72
  go_wp2_with fail
  refine a5.out.mono ?_
  rintro e J ⟨A',n',G,q,rfl,a4,rfl⟩
  have a2:Below (w.heap.size+2) ((w.alloc (.cells #[.slice u z c1,.slice A2 n2 c2,.slice A3 n c3] 41)).alloc (.cells #[.slice none 0 0,.slice none 0 0,.slice none 0 0] 41)) (((w.alloc (.cells #[.slice u z c1,.slice A2 n2 c2,.slice A3 n c3] 41)).alloc (.cells #[.slice none 0 0,.slice none 0 0,.slice none 0 0] 41)).drewN q):=below_drewN (Below.refl _ _) q
  have a3:=HB.out.trans (below_drewN (Below.refl w.heap.size _) q)
  obtain ⟨⟨f0,f1,f2⟩,g0,g1,g2⟩:=a6.out.below a2 (by omega)
  obtain ⟨⟨r0,r1,r2⟩,e0,e1,e2⟩:=a7.out.below a2 (by omega)
  have aM:(((w.alloc (.cells #[.slice u z c1,.slice A2 n2 c2,.slice A3 n c3] 41)).alloc (.cells #[.slice none 0 0,.slice none 0 0,.slice none 0 0] 41)).drewN q).heap.size=w.heap.size+2:=by simp
  have HN:=Lh a4
  have a1:=Lh a3
  clear HB a2 a6 a7 ax a5 a3 ad a4
  generalize (((w.alloc (.cells #[.slice u z c1,.slice A2 n2 c2,.slice A3 n c3] 41)).alloc (.cells #[.slice none 0 0,.slice none 0 0,.slice none 0 0] 41)).drewN q)=J at *
  have aq:Below w.heap.size w (J.setCell ⟨w.heap.size,0,none⟩ (.slice A' n' G)):=a1.out.setCell (Nat.le_refl _) _
  have aw:=(H3.out.below aq).rd
  have af:=Lh aw
  have b0:n≤1000:=hn
  clear aq aw
  go_wp2_with (
   at_builtin
   refine append_rd _ rfl _ _ 39 rfl (w.heap.size+2) 4 i0 (.bool false) 1 Tryz.underlying39 hi aA aB aC rfl _ 0 [] rfl (World.ownsRow_nil _ _ _ _) _ A3 n c3 S rfl af.out one_bool n (Nat.zero_add _) (S.map Value.bool) rfl (by unfold maxLen; omega) (by omega) (by simp; omega) ?_
   intro A5 c5 I aa ar aH
   refine Hid.out ?_)
  refine Lh ?_
  have aK:J.grownBy I none∨True:=.inr trivial
  have aL:=aa.lt
  have aJ:(J.setCell ⟨w.heap.size,0,none⟩ (.slice A' n' G)).heap.size=J.heap.size:=by simp
  have Q:Below (w.heap.size+2) (J.setCell ⟨w.heap.size,0,none⟩ (.slice A' n' G)) I:=(Below.refl _ _).grown ar (by omega) (fun j hj=>by cases hj)
  have aj:I.cell? ⟨w.heap.size,0,none⟩=some (.slice A' n' G):=(Q.cell (p:=⟨w.heap.size,0,none⟩) (by simp)).trans (World.cell?_setCell_same _ _ _ f0)
  have ak:I.cell? ⟨w.heap.size,1,none⟩=some (.slice A2 n2 c2):=(Q.cell (p:=⟨w.heap.size,1,none⟩) (by simp)).trans ((setCell_ne J 0 1 _ (by omega)).trans f1)
  have al:I.cell? ⟨w.heap.size,2,none⟩=some (.slice A3 n c3):=(Q.cell (p:=⟨w.heap.size,2,none⟩) (by simp)).trans ((setCell_ne J 0 2 _ (by omega)).trans f2)
  have an:I.frozen? ⟨w.heap.size,2,none⟩=false:=(Q.frozen (p:=⟨w.heap.size,2,none⟩) (by simp)).trans (by simpa using g2)
  have ro (o:Nat):(J.setCell ⟨w.heap.size,0,none⟩ (.slice A' n' G)).cell? ⟨w.heap.size+1,o,none⟩=J.cell? ⟨w.heap.size+1,o,none⟩:=World.cell?_setCell_other _ _ _ _ (fun e=>by injection e with e; omega)
  have aD:I.cell? ⟨w.heap.size+1,0,none⟩=some (.slice none 0 0):=(Q.cell (p:=⟨w.heap.size+1,0,none⟩) (by simp)).trans ((ro 0).trans r0)
  have aE:I.cell? ⟨w.heap.size+1,1,none⟩=some (.slice none 0 0):=(Q.cell (p:=⟨w.heap.size+1,1,none⟩) (by simp)).trans ((ro 1).trans r1)
  have aF:I.cell? ⟨w.heap.size+1,2,none⟩=some (.slice none 0 0):=(Q.cell (p:=⟨w.heap.size+1,2,none⟩) (by simp)).trans ((ro 2).trans r2)
  have ag:I.frozen? ⟨w.heap.size+1,0,none⟩=false:=(Q.frozen (p:=⟨w.heap.size+1,0,none⟩) (by simp)).trans (by simpa using e0)
  have ah:I.frozen? ⟨w.heap.size+1,1,none⟩=false:=(Q.frozen (p:=⟨w.heap.size+1,1,none⟩) (by simp)).trans (by simpa using e1)
  have ai:I.frozen? ⟨w.heap.size+1,2,none⟩=false:=(Q.frozen (p:=⟨w.heap.size+1,2,none⟩) (by simp)).trans (by simpa using e2)
  have ac:=Lh ((a1.out.setCell (Nat.le_refl _) _:Below w.heap.size w (J.setCell ⟨w.heap.size,0,none⟩ (.slice A' n' G))).trans (Q.mono (by omega)))
  have aN:w.heap.size+2≤I.heap.size:=by have:=Q.size; omega
  have a9:=Lh aa
  clear f0 f1 f2 g0 g1 g2 r0 r1 r2 e0 e1 e2 ro Q a1 aa ar aH aL aJ aK af
  go_wp2_with (
   at_builtin
   refine append_rd _ rfl _ _ 39 rfl (w.heap.size+2) 4 i0 (.bool false) 1 Tryz.underlying39 hi aA aB aC rfl _ n _ rfl (a9.out.alloc _) _ _ 1 1 [false] rfl (rd_one I false 4) one_bool (n+1) rfl ((S ++ [false]).map Value.bool) (by simp) (by unfold maxLen; omega) (by omega) (by simp; omega) ?_
   intro Y c6 F av au aI
   refine Hid.out ?_)
  refine Lh ?_
  have W:Below (w.heap.size+2) I F:=((Below.refl _ _).alloc (by omega) _).grown au (by simp; omega) (fun j hj=>(a9.out.lt j hj).1)
  have aU:F.cell? ⟨w.heap.size,0,none⟩=some (.slice A' n' G):=(W.cell (p:=⟨w.heap.size,0,none⟩) (by simp)).trans aj
  have aV:F.cell? ⟨w.heap.size,1,none⟩=some (.slice A2 n2 c2):=(W.cell (p:=⟨w.heap.size,1,none⟩) (by simp)).trans ak
  have aW:F.cell? ⟨w.heap.size,2,none⟩=some (.slice A3 n c3):=(W.cell (p:=⟨w.heap.size,2,none⟩) (by simp)).trans al
  have aX:F.frozen? ⟨w.heap.size,2,none⟩=false:=(W.frozen (p:=⟨w.heap.size,2,none⟩) (by simp)).trans an
  have aO:F.cell? ⟨w.heap.size+1,0,none⟩=some (.slice none 0 0):=(W.cell (p:=⟨w.heap.size+1,0,none⟩) (by simp)).trans aD
  have aP:F.cell? ⟨w.heap.size+1,1,none⟩=some (.slice none 0 0):=(W.cell (p:=⟨w.heap.size+1,1,none⟩) (by simp)).trans aE
  have aQ:F.cell? ⟨w.heap.size+1,2,none⟩=some (.slice none 0 0):=(W.cell (p:=⟨w.heap.size+1,2,none⟩) (by simp)).trans aF
  have aR:F.frozen? ⟨w.heap.size+1,0,none⟩=false:=(W.frozen (p:=⟨w.heap.size+1,0,none⟩) (by simp)).trans ag
  have aS:F.frozen? ⟨w.heap.size+1,1,none⟩=false:=(W.frozen (p:=⟨w.heap.size+1,1,none⟩) (by simp)).trans ah
  have aT:F.frozen? ⟨w.heap.size+1,2,none⟩=false:=(W.frozen (p:=⟨w.heap.size+1,2,none⟩) (by simp)).trans ai
  have a1:=Lh (ac.out.trans (W.mono (by omega)))
  have aZ:w.heap.size+2≤F.heap.size:=by have:=W.size; omega
  have ae:=Lh av
  clear aj ak al an aD aE aF ag ah ai W ac av au aI a9 aN
  go_wp2_with fail
  go_region
  go_wp2_with fail
  have a0:Below w.heap.size w (((((F.setCell ⟨w.heap.size,2,none⟩ (.slice Y (n+1) c6)).setCell ⟨w.heap.size+1,0,none⟩ (.slice A' n' G)).setCell ⟨w.heap.size+1,1,none⟩ (.slice A2 n2 c2)).setCell ⟨w.heap.size+1,2,none⟩ (.slice Y (n+1) c6)).drew):=by
   repeat' (first | exact a1.out | apply Below.setCell | apply below_drewN | apply Below.drew | apply Below.alloc)
   all_goals (first | (simp; done) | (simp; omega))
  have aG:Rn (((((F.setCell ⟨w.heap.size,2,none⟩ (.slice Y (n+1) c6)).setCell ⟨w.heap.size+1,0,none⟩ (.slice A' n' G)).setCell ⟨w.heap.size+1,1,none⟩ (.slice A2 n2 c2)).setCell ⟨w.heap.size+1,2,none⟩ (.slice Y (n+1) c6)).drew) p m Y (n+1) c6 (S ++ [false]):=Rn.of_own (base:=w.heap.size+2) (Hi.own_same ae.out (fun g hg=>by
   have aY:=(ae.out.lt g hg).1
   show ((((F.setCell ⟨w.heap.size,2,none⟩ (.slice Y (n+1) c6)).setCell ⟨w.heap.size+1,0,none⟩ (.slice A' n' G)).setCell ⟨w.heap.size+1,1,none⟩ (.slice A2 n2 c2)).setCell ⟨w.heap.size+1,2,none⟩ (.slice Y (n+1) c6)).heap[g]? = F.heap[g]?
   rw [heap_setCell_other _ _ g _ (fun e=>by have e:g=w.heap.size+1:=e; omega),heap_setCell_other _ _ g _ (fun e=>by have e:g=w.heap.size+1:=e; omega),heap_setCell_other _ _ g _ (fun e=>by have e:g=w.heap.size+1:=e; omega),heap_setCell_other _ _ g _ (fun e=>by have e:g=w.heap.size:=e; omega)])) (by omega) (by omega)
  refine bodyPost_ret (v:=.tuple #[.agg #[.slice A' n' G,.slice A2 n2 c2,.slice Y (n+1) c6],.int .u64 ((n:Int)+1),.bool true]) (by simp [results,Tryz.results72,go_sem,aO,aP,aQ]) rfl ⟨_,rfl,⟨⟨_,_,_,_,_,_,_,_,_,rfl,HN.out _ (H1.out.below a0),H2.out.below a0,aG,H4.out.snoc HC.out⟩⟩,a0⟩
end Go.Proofs.YtoiklelghfckgaaGreatDoor.Fc
namespace Go.Proofs.YtoiklelghfckgaaGreatDoor.Fk
open Go.ChangeShapes Go.WideShapes Go.ChangeAt Go.RowKit Go.Maps Rw Fc
structure Rn (K:Nat→Prop) (w:World) (A:Option Addr) (n c:Nat) (O:List Bool):Prop where
 rd:Rd Value.bool w w.heap.size A n c O
 ne:0 < n → ∀ g o,A=some ⟨g,o,none⟩→K g
theorem Rn.nil_ (K:Nat→Prop) (w:World):Rn K w none 0 0 []:=⟨Rd.nil_,fun h=>absurd h (by omega)⟩
theorem Rn.below {K:Nat→Prop} {w w':World} {A:Option Addr} {n c:Nat} {O:List Bool} (h:Rn K w A n c O) (u:Below w.heap.size w w'):Rn K w' A n c O:=⟨h.rd.later u,h.ne⟩
theorem Rn.of_own {w:World} {K:Nat→Prop} {base:Nat} {A:Option Addr} {n c:Nat} {O:List Bool} (h:w.ownsRow base 4 1 (.slice A n c) n (O.map Value.bool)) (z:∀ g,base≤g→K g):Rn K w A n c O:=by
 refine ⟨Rd.own_rd h,fun hn g o e=>?_⟩
 have:=(h.lt g (by
  rw [e]; rcases h.2 with ⟨u,G⟩ | ⟨I,cap,F,u,_⟩
  ·omega
  ·injection u with u _ _
   rw [e] at u
   injection u with u
   injection u with u e2
   subst e2
   rfl)).1
 exact z _ this
theorem rnext_any (A:Option Addr) {K:Nat→Prop} (n c:Nat) (O:List Bool) (w:World) (h:Rn K w A n c O) :
  Calls Tryz.prog 129 #[.slice A n c] w fun e w'=>∃ A' n' z q,e=.returned (.tuple #[.slice A' n' z,.bool (nx O).1])∧(∀ W,Rn K W A n c O→Rn K W A' n' z (nx O).2)∧w.drewN q=w':=by
 cases O with
 | nil=>
  obtain rfl:0=n:=h.rd.len
  clear h
  go_enter Tryz.func129,Tryz.ntmps129
  go_wp2_with fail
  exact bodyPost_ret (v:=.tuple #[.slice none 0 0,.bool true]) (by simp [results,Tryz.results129,go_sem]) rfl ⟨none,0,0,0,rfl,fun W _=>Rn.nil_ K W,rfl⟩
 | cons x l=>
  have hn:(x :: l).length=n:=h.rd.len
  simp at hn
  have a0:=h.rd.cap
  have a1:=h.rd.top
  obtain ⟨g,o,y,rfl,Q,hx,F⟩:=h.rd.get (k:=0) (by omega)
  obtain rfl:x=y:=by simpa using hx
  have hz:((n:Int) == 0)=false:=by simp; omega
  have a2:(n == 0)=false:=by simp; omega
  have Y:1≤n:=by omega
  simp only [Nat.add_zero] at F
  have G:=Lh h
  clear h hx hn
  by_cases hc1:c=1
  ·subst hc1
   obtain rfl:n=1:=by omega
   go_enter Tryz.func129,Tryz.ntmps129
   go_wp2_with fail
   go_region
   go_wp2_with fail
   exact bodyPost_ret (v:=.tuple #[.slice (some ⟨g,o,none⟩) 0 0,.bool x]) (by simp [results,Tryz.results129,go_sem]) rfl ⟨_,_,_,1,rfl,fun W u=>⟨u.rd.back (i:=1) (A':=some ⟨g,o,none⟩) (by omega) rfl (by omega),fun hk=>absurd hk (by omega)⟩,rfl⟩
  ·have J:1 < c:=by omega
   go_enter Tryz.func129,Tryz.ntmps129
   go_wp2_with fail
   go_region
   go_wp2_with fail
   exact bodyPost_ret (v:=.tuple #[.slice (some ⟨g,o+1,none⟩) (n - 1) (c - 1),.bool x]) (by simp [results,Tryz.results129,go_sem]) rfl ⟨_,_,_,1,rfl,fun W u=>⟨u.rd.back (i:=1) (A':=some ⟨g,o+1,none⟩) (by omega) rfl (fun _=>rfl),fun _ I o' e=>by
    injection e with e
    injection e with e1 e2
    subst e1
    exact u.ne (by omega) g o rfl⟩,rfl⟩
structure Rf (K:Nat→Prop) (w:World) (v:Value) (O P:List Bool) (n:Nat) (C:List Int):Prop where
 form:∃ A1 n1 c1 A2 n2 c2 A3 c3 S,v=.agg #[.slice A1 n1 c1,.slice A2 n2 c2,.slice A3 n c3] ∧ Rn K w A1 n1 c1 O∧Rn K w A2 n2 c2 P∧Rn K w A3 n c3 S∧Sh n C S
theorem Rf.below {K:Nat→Prop} {w w':World} {n:Nat} {v:Value} {O P:List Bool} {C:List Int} (h:Rf K w v O P n C) (u:Below w.heap.size w w'):Rf K w' v O P n C:=by
 obtain ⟨z,Q,c1,A2,n2,c2,A3,c3,S,e,F,G,I,J⟩:=h.form
 exact ⟨⟨z,Q,c1,A2,n2,c2,A3,c3,S,e,F.below u,G.below u,I.below u,J⟩⟩
theorem ropen_any {K:Nat→Prop} (v:Value) (n:Nat) (O P:List Bool) (C:List Int) (w:World) (h:Rf K w v O P n C) (hn:n≤1000) (hC:∀ x∈C,1≤x∧x≤n) (ao:∀ g,w.heap.size≤g→K g) :
  Calls Tryz.prog 72 #[v] w fun e w'=>∃ v',e=.returned (.tuple #[v',.int .u64 (if (nx O).1 then (n:Int)+1 else 0),.bool (nx O).1])∧Rf K w' v' (nx O).2 P (if (nx O).1 then n+1 else n) C∧Below w.heap.size w w':=by
 have aH:=Lh ao
 clear ao
 obtain ⟨i0,hi,aB,aC,aD⟩:=info_parts info_bool
 obtain ⟨u,z,c1,A2,n2,c2,A3,c3,S,rfl,h1,h2,h3,h4⟩:=h.form
 have HH:=Lh h
 have H1:=Lh h1
 have H2:=Lh h2
 have H3:=Lh h3
 have H4:=Lh h4
 clear h h1 h2 h3 h4
 have aq:Below w.heap.size w (w.alloc (.cells #[.slice u z c1,.slice A2 n2 c2,.slice A3 n c3] 41)):=(Below.refl _ _).alloc (Nat.le_refl _) _
 have a8:Below w.heap.size w ((w.alloc (.cells #[.slice u z c1,.slice A2 n2 c2,.slice A3 n c3] 41)).alloc (.cells #[.slice none 0 0,.slice none 0 0,.slice none 0 0] 41)):=aq.alloc (by simp) _
 have az:V3 ((w.alloc (.cells #[.slice u z c1,.slice A2 n2 c2,.slice A3 n c3] 41)).alloc (.cells #[.slice none 0 0,.slice none 0 0,.slice none 0 0] 41)) w.heap.size (.slice u z c1) (.slice A2 n2 c2) (.slice A3 n c3):=(V3.new w _ _ _ _).below ((Below.refl (w.heap.size+1) _).alloc (by simp) _) (by omega)
 have aA:V3 ((w.alloc (.cells #[.slice u z c1,.slice A2 n2 c2,.slice A3 n c3] 41)).alloc (.cells #[.slice none 0 0,.slice none 0 0,.slice none 0 0] 41)) (w.heap.size+1) (.slice none 0 0) (.slice none 0 0) (.slice none 0 0):=by have:=V3.new (w.alloc (.cells #[.slice u z c1,.slice A2 n2 c2,.slice A3 n c3] 41)) (.slice none 0 0) (.slice none 0 0) (.slice none 0 0) 41; rw [show (w.alloc (.cells #[.slice u z c1,.slice A2 n2 c2,.slice A3 n c3] 41)).heap.size=w.heap.size+1 by simp] at this; exact this
 have HB:=Lh a8
 have a6:=Lh az
 have a7:=Lh aA
 have ay:((w.alloc (.cells #[.slice u z c1,.slice A2 n2 c2,.slice A3 n c3] 41)).alloc (.cells #[.slice none 0 0,.slice none 0 0,.slice none 0 0] 41)).heap.size=w.heap.size+2:=by simp
 have HC:=Lh hC
 have ad:=Lh a8
 have RN:=rnext_any u z c1 O _ (H1.out.below a8)
 have a5:=Lh RN
 clear aq a8 az aA RN hC
 generalize nx O=r at *
 obtain ⟨ok,l⟩:=r
 cases ok
 ·simp only [Bool.false_eq_true,if_false]
  go_enter Tryz.func72,Tryz.ntmps72
  go_wp2_with fail
  refine a5.out.mono ?_
  rintro e J ⟨A',n',G,q,rfl,a4,rfl⟩
  have a2:Below (w.heap.size+2) ((w.alloc (.cells #[.slice u z c1,.slice A2 n2 c2,.slice A3 n c3] 41)).alloc (.cells #[.slice none 0 0,.slice none 0 0,.slice none 0 0] 41)) (((w.alloc (.cells #[.slice u z c1,.slice A2 n2 c2,.slice A3 n c3] 41)).alloc (.cells #[.slice none 0 0,.slice none 0 0,.slice none 0 0] 41)).drewN q):=below_drewN (Below.refl _ _) q
  have a3:=HB.out.trans (below_drewN (Below.refl w.heap.size _) q)
  obtain ⟨⟨f0,f1,f2⟩,g0,g1,g2⟩:=a6.out.below a2 (by omega)
  obtain ⟨⟨r0,r1,r2⟩,e0,e1,e2⟩:=a7.out.below a2 (by omega)
  have aO:(((w.alloc (.cells #[.slice u z c1,.slice A2 n2 c2,.slice A3 n c3] 41)).alloc (.cells #[.slice none 0 0,.slice none 0 0,.slice none 0 0] 41)).drewN q).heap.size=w.heap.size+2:=by simp
  have HN:=Lh a4
  have a1:=Lh a3
  clear HB a2 a6 a7 ay a5 a3 ad a4
  generalize (((w.alloc (.cells #[.slice u z c1,.slice A2 n2 c2,.slice A3 n c3] 41)).alloc (.cells #[.slice none 0 0,.slice none 0 0,.slice none 0 0] 41)).drewN q)=J at *
  go_wp2_with fail
  have a0:Below w.heap.size w ((((J.setCell ⟨w.heap.size,0,none⟩ (.slice A' n' G)).setCell ⟨w.heap.size+1,0,none⟩ (.slice A' n' G)).setCell ⟨w.heap.size+1,1,none⟩ (.slice A2 n2 c2)).setCell ⟨w.heap.size+1,2,none⟩ (.slice A3 n c3)):=by
   repeat' (first | exact a1.out | apply Below.setCell | apply below_drewN | apply Below.drew | apply Below.alloc)
   all_goals (first | (simp; done) | (simp; omega))
  refine bodyPost_ret (v:=.tuple #[.agg #[.slice A' n' G,.slice A2 n2 c2,.slice A3 n c3],.int .u64 0,.bool false]) (by simp [results,Tryz.results72,go_sem,r0,r1,r2]) rfl ⟨_,rfl,⟨⟨_,_,_,_,_,_,_,_,_,rfl,HN.out _ (H1.out.below a0),H2.out.below a0,H3.out.below a0,H4.out⟩⟩,a0⟩
 ·simp only [if_true]
  go_enter Tryz.func72,Tryz.ntmps72
  go_wp2_with fail
  refine a5.out.mono ?_
  rintro e J ⟨A',n',G,q,rfl,a4,rfl⟩
  have a2:Below (w.heap.size+2) ((w.alloc (.cells #[.slice u z c1,.slice A2 n2 c2,.slice A3 n c3] 41)).alloc (.cells #[.slice none 0 0,.slice none 0 0,.slice none 0 0] 41)) (((w.alloc (.cells #[.slice u z c1,.slice A2 n2 c2,.slice A3 n c3] 41)).alloc (.cells #[.slice none 0 0,.slice none 0 0,.slice none 0 0] 41)).drewN q):=below_drewN (Below.refl _ _) q
  have a3:=HB.out.trans (below_drewN (Below.refl w.heap.size _) q)
  obtain ⟨⟨f0,f1,f2⟩,g0,g1,g2⟩:=a6.out.below a2 (by omega)
  obtain ⟨⟨r0,r1,r2⟩,e0,e1,e2⟩:=a7.out.below a2 (by omega)
  have aO:(((w.alloc (.cells #[.slice u z c1,.slice A2 n2 c2,.slice A3 n c3] 41)).alloc (.cells #[.slice none 0 0,.slice none 0 0,.slice none 0 0] 41)).drewN q).heap.size=w.heap.size+2:=by simp
  have HN:=Lh a4
  have a1:=Lh a3
  clear HB a2 a6 a7 ay a5 a3 ad a4
  generalize (((w.alloc (.cells #[.slice u z c1,.slice A2 n2 c2,.slice A3 n c3] 41)).alloc (.cells #[.slice none 0 0,.slice none 0 0,.slice none 0 0] 41)).drewN q)=J at *
  have ar:Below w.heap.size w (J.setCell ⟨w.heap.size,0,none⟩ (.slice A' n' G)):=a1.out.setCell (Nat.le_refl _) _
  have ax:=(H3.out.below ar).rd
  have af:=Lh ax
  have b3:n≤1000:=hn
  clear ar ax
  go_wp2_with (
   at_builtin
   refine append_rd _ rfl _ _ 39 rfl (w.heap.size+2) 4 i0 (.bool false) 1 Tryz.underlying39 hi aB aC aD rfl _ 0 [] rfl (World.ownsRow_nil _ _ _ _) _ A3 n c3 S rfl af.out one_bool n (Nat.zero_add _) (S.map Value.bool) rfl (by unfold maxLen; omega) (by omega) (by simp; omega) ?_
   intro A5 c5 I aa au aJ
   refine Hid.out ?_)
  refine Lh ?_
  have aM:J.grownBy I none∨True:=.inr trivial
  have aN:=aa.lt
  have aL:(J.setCell ⟨w.heap.size,0,none⟩ (.slice A' n' G)).heap.size=J.heap.size:=by simp
  have Q:Below (w.heap.size+2) (J.setCell ⟨w.heap.size,0,none⟩ (.slice A' n' G)) I:=(Below.refl _ _).grown au (by omega) (fun j hj=>by cases hj)
  have aj:I.cell? ⟨w.heap.size,0,none⟩=some (.slice A' n' G):=(Q.cell (p:=⟨w.heap.size,0,none⟩) (by simp)).trans (World.cell?_setCell_same _ _ _ f0)
  have ak:I.cell? ⟨w.heap.size,1,none⟩=some (.slice A2 n2 c2):=(Q.cell (p:=⟨w.heap.size,1,none⟩) (by simp)).trans ((setCell_ne J 0 1 _ (by omega)).trans f1)
  have al:I.cell? ⟨w.heap.size,2,none⟩=some (.slice A3 n c3):=(Q.cell (p:=⟨w.heap.size,2,none⟩) (by simp)).trans ((setCell_ne J 0 2 _ (by omega)).trans f2)
  have an:I.frozen? ⟨w.heap.size,2,none⟩=false:=(Q.frozen (p:=⟨w.heap.size,2,none⟩) (by simp)).trans (by simpa using g2)
  have ro (o:Nat):(J.setCell ⟨w.heap.size,0,none⟩ (.slice A' n' G)).cell? ⟨w.heap.size+1,o,none⟩=J.cell? ⟨w.heap.size+1,o,none⟩:=World.cell?_setCell_other _ _ _ _ (fun e=>by injection e with e; omega)
  have aE:I.cell? ⟨w.heap.size+1,0,none⟩=some (.slice none 0 0):=(Q.cell (p:=⟨w.heap.size+1,0,none⟩) (by simp)).trans ((ro 0).trans r0)
  have aF:I.cell? ⟨w.heap.size+1,1,none⟩=some (.slice none 0 0):=(Q.cell (p:=⟨w.heap.size+1,1,none⟩) (by simp)).trans ((ro 1).trans r1)
  have aG:I.cell? ⟨w.heap.size+1,2,none⟩=some (.slice none 0 0):=(Q.cell (p:=⟨w.heap.size+1,2,none⟩) (by simp)).trans ((ro 2).trans r2)
  have ag:I.frozen? ⟨w.heap.size+1,0,none⟩=false:=(Q.frozen (p:=⟨w.heap.size+1,0,none⟩) (by simp)).trans (by simpa using e0)
  have ah:I.frozen? ⟨w.heap.size+1,1,none⟩=false:=(Q.frozen (p:=⟨w.heap.size+1,1,none⟩) (by simp)).trans (by simpa using e1)
  have ai:I.frozen? ⟨w.heap.size+1,2,none⟩=false:=(Q.frozen (p:=⟨w.heap.size+1,2,none⟩) (by simp)).trans (by simpa using e2)
  have ac:=Lh ((a1.out.setCell (Nat.le_refl _) _:Below w.heap.size w (J.setCell ⟨w.heap.size,0,none⟩ (.slice A' n' G))).trans (Q.mono (by omega)))
  have aP:w.heap.size+2≤I.heap.size:=by have:=Q.size; omega
  have a9:=Lh aa
  clear f0 f1 f2 g0 g1 g2 r0 r1 r2 e0 e1 e2 ro Q a1 aa au aJ aN aL aM af
  go_wp2_with (
   at_builtin
   refine append_rd _ rfl _ _ 39 rfl (w.heap.size+2) 4 i0 (.bool false) 1 Tryz.underlying39 hi aB aC aD rfl _ n _ rfl (a9.out.alloc _) _ _ 1 1 [false] rfl (rd_one I false 4) one_bool (n+1) rfl ((S ++ [false]).map Value.bool) (by simp) (by unfold maxLen; omega) (by omega) (by simp; omega) ?_
   intro Y c6 F aw av aK
   refine Hid.out ?_)
  refine Lh ?_
  have W:Below (w.heap.size+2) I F:=((Below.refl _ _).alloc (by omega) _).grown av (by simp; omega) (fun j hj=>(a9.out.lt j hj).1)
  have aW:F.cell? ⟨w.heap.size,0,none⟩=some (.slice A' n' G):=(W.cell (p:=⟨w.heap.size,0,none⟩) (by simp)).trans aj
  have aX:F.cell? ⟨w.heap.size,1,none⟩=some (.slice A2 n2 c2):=(W.cell (p:=⟨w.heap.size,1,none⟩) (by simp)).trans ak
  have aY:F.cell? ⟨w.heap.size,2,none⟩=some (.slice A3 n c3):=(W.cell (p:=⟨w.heap.size,2,none⟩) (by simp)).trans al
  have aZ:F.frozen? ⟨w.heap.size,2,none⟩=false:=(W.frozen (p:=⟨w.heap.size,2,none⟩) (by simp)).trans an
  have aQ:F.cell? ⟨w.heap.size+1,0,none⟩=some (.slice none 0 0):=(W.cell (p:=⟨w.heap.size+1,0,none⟩) (by simp)).trans aE
  have aR:F.cell? ⟨w.heap.size+1,1,none⟩=some (.slice none 0 0):=(W.cell (p:=⟨w.heap.size+1,1,none⟩) (by simp)).trans aF
  have aS:F.cell? ⟨w.heap.size+1,2,none⟩=some (.slice none 0 0):=(W.cell (p:=⟨w.heap.size+1,2,none⟩) (by simp)).trans aG
  have aT:F.frozen? ⟨w.heap.size+1,0,none⟩=false:=(W.frozen (p:=⟨w.heap.size+1,0,none⟩) (by simp)).trans ag
  have aU:F.frozen? ⟨w.heap.size+1,1,none⟩=false:=(W.frozen (p:=⟨w.heap.size+1,1,none⟩) (by simp)).trans ah
  have aV:F.frozen? ⟨w.heap.size+1,2,none⟩=false:=(W.frozen (p:=⟨w.heap.size+1,2,none⟩) (by simp)).trans ai
  have a1:=Lh (ac.out.trans (W.mono (by omega)))
  have b2:w.heap.size+2≤F.heap.size:=by have:=W.size; omega
  have ae:=Lh aw
  clear aj ak al an aE aF aG ag ah ai W ac aw av aK a9 aP
  go_wp2_with fail
  go_region
  go_wp2_with fail
  have a0:Below w.heap.size w (((((F.setCell ⟨w.heap.size,2,none⟩ (.slice Y (n+1) c6)).setCell ⟨w.heap.size+1,0,none⟩ (.slice A' n' G)).setCell ⟨w.heap.size+1,1,none⟩ (.slice A2 n2 c2)).setCell ⟨w.heap.size+1,2,none⟩ (.slice Y (n+1) c6)).drew):=by
   repeat' (first | exact a1.out | apply Below.setCell | apply below_drewN | apply Below.drew | apply Below.alloc)
   all_goals (first | (simp; done) | (simp; omega))
  have aI:Rn K (((((F.setCell ⟨w.heap.size,2,none⟩ (.slice Y (n+1) c6)).setCell ⟨w.heap.size+1,0,none⟩ (.slice A' n' G)).setCell ⟨w.heap.size+1,1,none⟩ (.slice A2 n2 c2)).setCell ⟨w.heap.size+1,2,none⟩ (.slice Y (n+1) c6)).drew) Y (n+1) c6 (S ++ [false]):=Rn.of_own (base:=w.heap.size+2) (Hi.own_same ae.out (fun g hg=>by
   have b0:=(ae.out.lt g hg).1
   show ((((F.setCell ⟨w.heap.size,2,none⟩ (.slice Y (n+1) c6)).setCell ⟨w.heap.size+1,0,none⟩ (.slice A' n' G)).setCell ⟨w.heap.size+1,1,none⟩ (.slice A2 n2 c2)).setCell ⟨w.heap.size+1,2,none⟩ (.slice Y (n+1) c6)).heap[g]? = F.heap[g]?
   rw [heap_setCell_other _ _ g _ (fun e=>by have e:g=w.heap.size+1:=e; omega),heap_setCell_other _ _ g _ (fun e=>by have e:g=w.heap.size+1:=e; omega),heap_setCell_other _ _ g _ (fun e=>by have e:g=w.heap.size+1:=e; omega),heap_setCell_other _ _ g _ (fun e=>by have e:g=w.heap.size:=e; omega)])) (fun g hg=>aH.out g (by omega))
  refine bodyPost_ret (v:=.tuple #[.agg #[.slice A' n' G,.slice A2 n2 c2,.slice Y (n+1) c6],.int .u64 ((n:Int)+1),.bool true]) (by simp [results,Tryz.results72,go_sem,aQ,aR,aS]) rfl ⟨_,rfl,⟨⟨_,_,_,_,_,_,_,_,_,rfl,HN.out _ (H1.out.below a0),H2.out.below a0,aI,H4.out.snoc HC.out⟩⟩,a0⟩
end Go.Proofs.YtoiklelghfckgaaGreatDoor.Fk
