/- A part of the claim: the texts LocalRef LocalPlaysKit LocalRefK. -/
import Derived.Test.YtaeemilldmhbnaaGreatDoorZBase5
import Derived.Test.YtaeemilldmhbnaaGreatDoorZGKeep
import Derived.Deep.CutRange
set_option maxRecDepth 100000
set_option maxHeartbeats 8000000
set_option linter.unusedVariables false
namespace Go.Proofs.YtaeemilldmhbnaaGreatDoor.Lc
open Go.ChangeShapes Go.WideShapes Go.ChangeAt Go.RowKit Rw Hi Sl
structure Sv where
 A:Option Addr
 n:Nat
 c:Nat
def encS (s:Sv):Value:=.slice s.A s.n s.c
theorem one_s (s:Sv):(encS s).oneCell'=true:=rfl
theorem info_s:(Tryz.prog.info? 38).map (fun i=>(i.zero,i.size,i.bytes))=some (some (.slice none 0 0),1,24):=by kernel_rfl
structure Dc (w:World) (p:Nat) (A:Option Addr) (c:Nat) (vs:List Sv) (L:Nat→List Int):Prop where
 rd:Rd encS w w.heap.size A 8 c vs
 bl:∀ g,(Value.slice A 8 c).ownBlock=some g→g≠p
 el:∀ i s,vs[i]? = some s→Rd (Value.int .u64) w w.heap.size s.A s.n s.c (L i) ∧ ∀ g,(Value.slice s.A s.n s.c).ownBlock=some g→g < w.heap.size∧g≠p
 len:∀ i,i < 8→(L i).length≤4
section
variable {w w':World} {p:Nat} {A:Option Addr} {c:Nat} {vs:List Sv} {L:Nat→List Int}
end
theorem rput_out (A:Option Addr) (c:Nat) (t id:Int) (w:World) (h:t < 0∨8≤t) :
  Calls Tryz.prog 100 #[.slice A 8 c,.int .i64 t,.int .u64 id] w fun e w'=>e=.returned (.tuple #[.slice A 8 c,.int .i64 2])∧w=w':=by
 by_cases h0:t < 0
 ·have u:decide (t < 0)=true:=decide_eq_true h0
  go_enter Tryz.func100,Tryz.ntmps100
  go_wp2_with fail
  go_ret2
  exact ⟨rfl,rfl⟩
 ·have u:decide (t < 0)=false:=decide_eq_false h0
  have d7:decide ((7:Int) < t)=true:=decide_eq_true (by omega)
  go_enter Tryz.func100,Tryz.ntmps100
  go_wp2_with fail
  go_ret2
  exact ⟨rfl,rfl⟩
end Go.Proofs.YtaeemilldmhbnaaGreatDoor.Lc
namespace Go.Proofs.YtaeemilldmhbnaaGreatDoor.Lc
open Go Go.ChangeShapes Go.WideShapes Go.ChangeAt Go.RowKit Go.Deep Rw Hi Sl
abbrev Fx:Nat→Prop:=fun _=>False
theorem fx (w:World):∀ g,Fx g→g < w.heap.size:=fun g h=>h.elim
def inR (t:Int):Bool:=decide (0≤t) && decide (t < 8)
theorem inR_yes {t:Int} (h:inR t=true):∃ i:Nat,t=i∧i < 8:=by
 simp [inR] at h
 exact ⟨t.toNat,by omega,by omega⟩
theorem inR_no {t:Int} (h:inR t=false):t < 0∨8≤t:=by
 simp [inR] at h
 by_cases h0:0≤t
 ·exact .inr (h h0)
 ·exact .inl (by omega)
def putR (L:Nat→List Int) (t:Int) (ids:List Int):Nat→List Int:=if inR t then upd L t.toNat (last4 (L t.toNat ++ ids)) else L
def putE (t:Int):Int:=if inR t then 0 else 2
section
variable {w0 w w':World} {p q:Nat} {A:Option Addr} {c:Nat} {vs:List Sv} {t:Int} {v:Value} {tk cl:Bool} {L E:Nat→List Int}
end
end Go.Proofs.YtaeemilldmhbnaaGreatDoor.Lc
namespace Go.Proofs.YtaeemilldmhbnaaGreatDoor.Lk
open Go.ChangeShapes Go.WideShapes Go.ChangeAt Go.RowKit Rw Hi Sl Lc
structure Dc (K:Nat→Prop) (w:World) (A:Option Addr) (c:Nat) (vs:List Sv) (L:Nat→List Int):Prop where
 rd:Rd encS w w.heap.size A 8 c vs
 bl:∀ g,(Value.slice A 8 c).ownBlock=some g→K g
 el:∀ i s,vs[i]? = some s→Rd (Value.int .u64) w w.heap.size s.A s.n s.c (L i) ∧ ∀ g,(Value.slice s.A s.n s.c).ownBlock=some g→g < w.heap.size∧K g
 len:∀ i,i < 8→(L i).length≤4
section
variable {K:Nat→Prop} {w w':World} {A:Option Addr} {c:Nat} {vs:List Sv} {L:Nat→List Int}
theorem Dc.later (h:Dc K w A c vs L) (hb:Below w.heap.size w w'):Dc K w' A c vs L:=
 ⟨h.rd.later hb,h.bl,fun i s u=>⟨(h.el i s u).1.later hb,fun g z=>⟨Nat.lt_of_lt_of_le ((h.el i s u).2 g z).1 hb.size,((h.el i s u).2 g z).2⟩⟩,h.len⟩
theorem Dc.get (h:Dc K w A c vs L) {i:Nat} (hi:i < 8):∃ b o s,A=some ⟨b,o,none⟩∧b < w.heap.size∧vs[i]? = some s∧w.cell? ⟨b,o+i,none⟩=some (.slice s.A s.n s.c)∧Rd (Value.int .u64) w w.heap.size s.A s.n s.c (L i)∧s.n≤4:=by
 obtain ⟨b,o,s,F,G,u,I⟩:=h.rd.get hi
 have z:=(h.el i s u).1
 exact ⟨b,o,s,F,G,u,I,z,by rw [← z.len]; exact h.len i hi⟩
end
theorem with_any {K:Nat→Prop} (w:World) (i:Nat) (A:Option Addr) (c:Nat) (vs:List Sv) (L:Nat→List Int) (u:Option Addr) (F c1:Nat) (xs:List Int) (h:Dc K w A c vs L) (a3:∀ g,w.heap.size≤g→K g) (hi:i < 8) (hr:Rd (Value.int .u64) w w.heap.size u F c1 xs) (hx:∀ g,(Value.slice u F c1).ownBlock=some g→g < w.heap.size∧K g) (hl:xs.length≤4) :
  Calls Tryz.prog 170 #[.slice A 8 c,.int .i64 i,.slice u F c1] w fun e w'=>∃ A' c' ai,e=.returned (.slice A' 8 c')∧Dc K w' A' c' ai (upd L i xs)∧Below w.heap.size w w':=by
 have a8:=Lh a3
 clear a3
 obtain ⟨i0,ae,af,ag,ah⟩:=info_parts info_s
 have HD:=Lh h
 have HR:=Lh hr
 have HX:=Lh hx
 have a1:=Lh h.rd
 have an:(i:Int) < 8:=by omega
 clear h hr hx
 go_enter Tryz.func170,Tryz.ntmps170
 go_wp2_with (
  at_builtin
  refine append_rd _ rfl _ _ 41 rfl w.heap.size 38 i0 (.slice none 0 0) 24 Tryz.underlying41 ae af ag ah rfl (.slice none 0 0) 0 [] rfl (World.ownsRow_nil _ _ _ _) w.heap.size A 8 c vs rfl a1.out one_s 8 (Nat.zero_add _) (vs.map encS) rfl (by unfold maxLen; omega) (by omega) (Nat.le_refl _) ?_
  intro A2 c2 w2 I a5 aa
  refine Hid.out ?_)
 refine Lh ?_
 have a4:Below w.heap.size w w2:=(Below.refl _ _).grown a5 (Nat.le_refl _) (fun j hj=>by cases hj)
 obtain ⟨g,rfl⟩:∃ g,A2=some ⟨g,0,none⟩:=by
  rcases I.2 with ⟨h',_⟩ | ⟨g,cap,aj,h',_⟩
  ·injection h' with _ h2 _; omega
  ·injection h' with h1 _ _; exact ⟨g,h1⟩
 have ad:=I.lt g rfl
 have a0:=Rd.own_rd I
 have ak:=a0.cap
 have ao:=a0.top
 obtain ⟨b2,o2,z,Q,_,hz,ac⟩:=a0.get hi
 injection Q with Q
 injection Q with e3 e4
 subst e3 e4
 rw [Nat.zero_add] at ac
 have al:=I.frozenAt i
 obtain ⟨q1,q2⟩:=I.stored i (.slice u F c1)
 rw [show (vs.map encS).set i (.slice u F c1)=(vs.set i ⟨u,F,c1⟩).map encS by rw [List.map_set]; rfl] at q1
 have Y:Below w.heap.size w (w2.setCell ⟨g,i,none⟩ (.slice u F c1)):=a4.setCell ad.1 _
 have a2:=HD.out.later Y
 have a6:Dc K (w2.setCell ⟨g,i,none⟩ (.slice u F c1)) (some ⟨g,0,none⟩) c2 (vs.set i ⟨u,F,c1⟩) (upd L i xs):=by
  refine ⟨Rd.own_rd q1,fun W G=>?_,fun j s J=>?_,fun j hj=>?_⟩
  ·injection G with G
   have e:g=W:=G
   exact a8.out W (by omega)
  ·by_cases e:i=j
   ·subst e
    rw [List.getElem?_set_self (by rw [HD.out.rd.len]; exact hi)] at J
    injection J with J
    subst J
    rw [upd_same]
    exact ⟨HR.out.later Y,fun W G=>⟨Nat.lt_of_lt_of_le (HX.out W G).1 Y.size,(HX.out W G).2⟩⟩
   ·rw [List.getElem?_set_ne e] at J
    rw [upd_ne _ _ (fun Q=>e Q.symm)]
    exact a2.el j s J
  ·by_cases e:j=i
   ·subst e; rw [upd_same]; exact hl
   ·rw [upd_ne _ _ e]; exact HD.out.len j hj
 have a9:=Lh a6
 have a7:=Lh Y
 clear I a5 aa a4 a0 q1 q2 Y a2 a6 hz a1
 go_wp2_with fail
 go_ret
 exact ⟨_,_,rfl,⟨_,a9.out⟩,a7.out⟩
theorem rput_in {K:Nat→Prop} (w:World) (i:Nat) (A:Option Addr) (c:Nat) (vs:List Sv) (L:Nat→List Int) (id:Int) (h:Dc K w A c vs L) (aa:∀ g,w.heap.size≤g→K g) (hi:i < 8) :
  Calls Tryz.prog 100 #[.slice A 8 c,.int .i64 i,.int .u64 id] w fun e w'=>∃ A' c' aw,e=.returned (.tuple #[.slice A' 8 c',.int .i64 0])∧Dc K w' A' c' aw (upd L i (last4 (L i ++ [id])))∧Below w.heap.size w w':=by
 have a2:=Lh aa
 clear aa
 obtain ⟨i0,af,ak,al,an⟩:=info_parts info_u64
 obtain ⟨b,o,s,rfl,hb,hs,hc,hr,au⟩:=h.get hi
 obtain ⟨A1,u,c1⟩:=s
 simp only at hc hr au
 have aC:=h.rd.cap
 have aG:=h.rd.top
 have HD:=Lh h
 have HR:=Lh hr
 have W:=Lh hr.len
 have aF:(i:Int) < 8:=by omega
 have d0:decide ((i:Int) < 0)=false:=decide_eq_false (by omega)
 have d7:decide ((7:Int) < (i:Int))=false:=decide_eq_false (by omega)
 have az:decide (7 < i)=false:=decide_eq_false (by omega)
 clear h hr hs
 go_enter Tryz.func100,Tryz.ntmps100
 go_wp2_with (
  at_builtin
  refine append_rd _ rfl _ _ 38 rfl w.heap.size 22 i0 (.int .u64 0) 8 Tryz.underlying38 af ak al an rfl (.slice none 0 0) 0 [] rfl (World.ownsRow_nil _ _ _ _) w.heap.size A1 u c1 (L i) rfl HR.out one_u64 u (Nat.zero_add _) ((L i).map (Value.int .u64)) rfl (by unfold maxLen; omega) (by omega) (Nat.le_refl _) ?_
  intro A2 c2 J ah ad aq
  refine Hid.out ?_)
 refine Lh ?_
 have a5:Below w.heap.size w J:=(Below.refl _ _).grown ad (Nat.le_refl _) (fun j hj=>by cases hj)
 have av:=a5.size
 have B2:=Lh (a5.alloc av (.cells #[.int .u64 id] 22))
 have a4:=Lh (ah.alloc (.cells #[.int .u64 id] 22))
 have aj:Rd (Value.int .u64) (J.alloc (.cells #[.int .u64 id] 22)) (J.heap.size+1) (some ⟨J.heap.size,0,none⟩) 1 1 [id]:=rd_one J id 22
 have a9:=Lh aj
 clear ah ad aq a5 aj
 go_wp2_with (
  at_builtin
  refine append_rd _ rfl _ _ 38 rfl w.heap.size 22 i0 (.int .u64 0) 8 Tryz.underlying38 af ak al an rfl (.slice A2 u c2) u _ rfl a4.out _ _ 1 1 [id] rfl a9.out one_u64 (u+1) rfl ((L i ++ [id]).map (Value.int .u64)) (by simp) (by unfold maxLen; omega) (by omega) (by simp; omega) ?_
  intro A3 c3 w3 a0 ae ar
  refine Hid.out ?_)
 refine Lh ?_
 have Y:Below w.heap.size w w3:=B2.out.grown ae (by simp; omega) (fun j hj=>(a4.out.lt j hj).1)
 have ag:=a0.lt
 obtain ⟨g,rfl⟩:∃ g,A3=some ⟨g,0,none⟩:=by
  rcases a0.2 with ⟨h',_⟩ | ⟨g,cap,ax,h',_⟩
  ·injection h' with _ h2 _; omega
  ·injection h' with h1 _ _; exact ⟨g,h1⟩
 have aE:=ag g rfl
 have a1:=Rd.own_rd a0
 have aD:=a1.cap
 have aH:=a1.top
 have ai:∀ g,w3.heap.size≤g→K g:=fun g hg=>a2.out g (Nat.le_trans Y.size hg)
 have a8:=Lh ai
 clear ai
 have D3:=Lh (HD.out.later Y)
 have R3:=Lh a1
 have Q:=Lh Y
 clear a0 ae ar Y ag a1 a4 a9 B2 HD HR
 by_cases h4:u=4
 ·subst h4
  have I:last4 (L i ++ [id])=(L i ++ [id]).drop 1:=by unfold last4; rw [List.length_append,W.out]; rfl
  have ac:=R3.out.back (i:=1) (by omega) rfl (A':=some ⟨g,1,none⟩) (fun _=>by rw [Nat.zero_add])
  have ao:=Lh ac
  have a3:=Lh I
  have aB:¬ c3=1:=by omega
  have aA:1≤c3:=by omega
  clear ac I
  go_wp2_with fail
  refine (with_any w3 i _ c vs L (some ⟨g,1,none⟩) 4 (c3 - 1) _ D3.out a8.out hi ao.out (fun F z=>by injection z with z; have e:g=F:=z; exact ⟨by omega,a2.out F (by omega)⟩) (by simp [W.out])).mono ?_
  rw [← a3.out]
  rintro e w4 ⟨A4,c4,a7,rfl,G,a6⟩
  have D4:=Lh G
  clear G
  go_wp2_with fail
  go_ret2
  exact ⟨A4,c4,a7,rfl,D4.out,Q.out.trans (a6.mono Q.out.size)⟩
 ·have I:last4 (L i ++ [id])=L i ++ [id]:=last4_short (by rw [List.length_append,W.out]; simp; omega)
  have a3:=Lh I
  have d5:decide ((4:Int) < (u:Int)+1)=false:=decide_eq_false (by omega)
  have ay:decide (4 < u+1)=false:=decide_eq_false (by omega)
  clear I
  go_wp2_with fail
  refine (with_any w3 i _ c vs L (some ⟨g,0,none⟩) (u+1) c3 _ D3.out a8.out hi R3.out (fun F z=>by injection z with z; have e:g=F:=z; exact ⟨by omega,a2.out F (by omega)⟩) (by rw [List.length_append,W.out]; simp; omega)).mono ?_
  rw [← a3.out]
  rintro e w4 ⟨A4,c4,a7,rfl,G,a6⟩
  have D4:=Lh G
  clear G
  go_wp2_with fail
  go_ret2
  exact ⟨A4,c4,a7,rfl,D4.out,Q.out.trans (a6.mono Q.out.size)⟩
theorem rnew_any {K:Nat→Prop} (w:World) (I:∀ g,w.heap.size≤g→K g) :
  Calls Tryz.prog 40 #[] w fun e w'=>∃ A c vs,e=.returned (.slice A 8 c)∧Dc K w' A c vs (fun _=>[])∧Below w.heap.size w w':=by
 have a0:=Lh I
 clear I
 obtain ⟨i0,a1,a2,a3,a5⟩:=info_parts info_s
 obtain ⟨z,Q,u,h⟩:=run_make_full (P:=Tryz.prog) w w.heap.size 41 38 i0 (.slice none 0 0) 1 Tryz.underlying41 a1 a2 a3 .i64 .i64 8 (by omega) (by unfold maxLen; omega) (Nat.le_refl _)
 have a4:(Instr.makeSlice 41 (.int .i64 8) (.int .i64 8)).run Tryz.prog w=.ok (.slice (some ⟨w.heap.size,0,none⟩) 8 8) z:=Q
 have J:(madeCells (Value.slice none 0 0).cells (8 * 1)).toList=(List.replicate 8 (⟨none,0,0⟩:Sv)).map encS:=toList_madeCells_one _ 8
 rw [J] at u
 have hb:Below w.heap.size w z:=(Below.refl _ _).grown h (Nat.le_refl _) (fun j hj=>by cases hj)
 have G:Dc K z (some ⟨w.heap.size,0,none⟩) 8 (List.replicate 8 ⟨none,0,0⟩) (fun _=>[]):=by
  refine ⟨Rd.own_rd u,fun g h=>?_,fun i s hs=>?_,fun i hi=>by simp⟩
  ·injection h with h
   have e:w.heap.size=g:=h
   exact a0.out g (by omega)
  ·have:=List.getElem?_eq_some_iff.1 hs
   obtain ⟨h1,F⟩:=this
   rw [List.getElem_replicate] at F
   subst F
   exact ⟨Rd.nil_,fun g h=>by cases h⟩
 have Y:=Lh G
 have W:=Lh hb
 clear Q u h J hb G
 go_enter Tryz.func40,Tryz.ntmps40
 go_wp2_with fail
 go_ret
 exact ⟨_,_,_,rfl,Y.out,W.out⟩
theorem rputU {K:Nat→Prop} (w:World) (A:Option Addr) (c:Nat) (vs:List Sv) (L:Nat→List Int) (t x:Int) (h:Dc K w A c vs L) (z:∀ g,w.heap.size≤g→K g) :
  Calls Tryz.prog 100 #[.slice A 8 c,.int .i64 t,.int .u64 x] w fun e w'=>∃ A' u G,e=.returned (.tuple #[.slice A' 8 u,.int .i64 (putE t)])∧Dc K w' A' u G (putR L t [x])∧Below w.heap.size w w':=by
 unfold putE putR
 cases hi:inR t with
 | false=>
  simp only [Bool.false_eq_true,if_false]
  refine (rput_out A c t x w (inR_no hi)).mono ?_
  rintro e w' ⟨rfl,rfl⟩
  exact ⟨A,c,vs,rfl,h,Below.refl _ _⟩
 | true=>
  obtain ⟨i,rfl,F⟩:=inR_yes hi
  simp only [if_true,Int.toNat_natCast]
  exact rput_in w i A c vs L x h z F
end Go.Proofs.YtaeemilldmhbnaaGreatDoor.Lk
