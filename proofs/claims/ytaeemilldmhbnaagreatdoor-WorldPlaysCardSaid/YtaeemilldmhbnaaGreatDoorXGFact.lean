/- A part of the claim: the texts FactOpen FactRef FactRefK. -/
import Derived.Test.YtaeemilldmhbnaaGreatDoorXGFr
import Derived.Test.YtaeemilldmhbnaaGreatDoorXHistEq
import Derived.Test.YtaeemilldmhbnaaGreatDoorXBase1
import Derived.Test.YtaeemilldmhbnaaGreatDoorXGKeep
set_option maxRecDepth 100000
set_option maxHeartbeats 8000000
set_option linter.unusedVariables false
namespace Go.Proofs.YtaeemilldmhbnaaGreatDoor.Fc
open Go Go.ChangeShapes Go.WideShapes Go.ChangeAt Go.RowKit Go.Deep Go.Maps Rw
section
variable {H:Type} {en:TypeId × Value→H} {P:Program} {w:World} {base:Nat} {spare:Nat→Bool} {held:Bool}
theorem bools_open {t e:TypeId} {v:Value} {d:DataW H} {p:List MemPlace} {b0:Nat} (Y:P.underlying t=some (.slice e)) (he:P.underlying e=some .bool) (hC:P.cellsOf e=1)
  (hv:Value.okWide P w .any b0 t v) (h:DataW.Trod en P w base spare held t v d p) :
  ∃ (A:Option Addr) (n c:Nat) (xs:List Bool),v=.slice A n c∧Rd Value.bool w w.heap.size A n c xs:=by
 obtain ⟨a0,a1,a6,rfl⟩:=okWide_slice Y hv
 obtain ⟨a8,u⟩:=h
 rcases open_slice Y u with ⟨I,_⟩ | ⟨a,len,cap,m,n,D,Pl,J,_,hl,W,a4,_,hi⟩
 ·simp [Value.cells] at I
  obtain ⟨rfl,rfl,rfl⟩:=I
  exact ⟨none,0,0,[],rfl,Rd.nil_⟩
 ·simp [Value.cells] at J
  obtain ⟨rfl,rfl,rfl⟩:=J
  have a3:∀ i,i < a1 → ∃ x:Bool,w.cell? (a.add i)=some (.bool x)∧True:=by
   intro i aa
   obtain ⟨a7,hc,a5⟩:=hi i (by rw [a4]; split <;> omega)
   rw [hC] at hc
   obtain ⟨_,a9,a2⟩:=World.cells?_some hc
   obtain ⟨z,hz,_⟩:=DataW.trod_bool he a5
   refine ⟨z,?_,trivial⟩
   have F:=a2 0 (by omega)
   rw [Go.Deep.add_add] at F
   simp only [Nat.mul_one,Nat.add_zero] at F
   rw [F,hz]
   rfl
  obtain ⟨f,u⟩:=choose_lt a3
  unfold maxLen at W
  refine ⟨_,_,_,(List.range a1).map f,rfl,⟨by simp,hl,W,fun hn=>?_⟩⟩
  have G:a.spot=none:=Lw.spot_none (a:=a) (by have:=(u 0 hn).1; simpa [Addr.add] using this)
  refine ⟨a.block,a.off,by cases a; simp at G; subst G; rfl,?_,fun j x hx=>?_⟩
  ·have:=Lw.lt_heap (u 0 hn).1
   simpa [Addr.add] using this
  ·obtain ⟨N,rfl⟩:=List.getElem?_eq_some_iff.1 hx
   simp at N
   rw [← Lw.add_eq G,(u j N).1]
   simp
end
structure Ac where
 do_:Int
 id:Int
structure Ac.ok (a:Ac):Prop where
 do_:0≤a.do_∧a.do_≤255
 id:0≤a.id∧a.id≤18446744073709551615
def upto (n:Nat):List Int:=(List.range n).map fun (i:Nat)=>(i:Int)+1
theorem upto_succ (n:Nat):upto (n+1)=upto n ++ [(n:Int)+1]:=by simp [upto,List.range_succ]
theorem upto_len (n:Nat):(upto n).length=n:=by simp [upto]
theorem mem_upto (n:Nat) (x:Int):x∈upto n↔1≤x∧x≤n:=by
 simp only [upto,List.mem_map,List.mem_range]
 constructor
 ·rintro ⟨i,hi,rfl⟩; omega
 ·intro h; exact ⟨(x - 1).toNat,by omega,by omega⟩
theorem upto_nodup:∀ n,(upto n).Nodup
 | 0=>List.nodup_nil
 | n+1=>by
  rw [upto_succ,List.nodup_append]
  refine ⟨upto_nodup n,by simp,fun a ha b h=>?_⟩
  simp at h
  subst h
  intro e
  have:=(mem_upto n a).1 ha
  omega
theorem parts_len (p:Int→Bool):∀ l:List Int,(l.filter p).length+(l.filter fun x=>!p x).length=l.length
 | []=>rfl
 | x :: l=>by
  have:=parts_len p l
  cases h:p x <;> simp [h] <;> omega
theorem ids_count (C:List Int) (n:Nat) (hn:C.Nodup) (G:∀ x∈C,1≤x∧x≤n):(ids C n).length+C.length=n:=by
 have u:ids C n=(upto n).filter fun x=>!decide (x∈C):=by
  have:∀ k,ids C k=(upto k).filter fun x=>!decide (x∈C):=by
   intro k
   induction k with
   | zero=>rfl
   | succ k ih=>
    rw [upto_succ,List.filter_append,← ih,show ids C (k+1)=(if ((k:Int)+1)∈C then ids C k else ids C k ++ [(k:Int)+1]) from rfl]
    split <;> rename_i h <;> simp [h]
  exact this n
 have z:((upto n).filter fun x=>decide (x∈C)).Perm C:=by
  rw [List.perm_ext_iff_of_nodup ((upto_nodup n).filter _) hn]
  intro a
  simp only [List.mem_filter,decide_eq_true_eq,mem_upto]
  exact ⟨fun h=>h.2,fun h=>⟨G a h,h⟩⟩
 have I:=z.length_eq
 have F:=parts_len (fun x=>decide (x∈C)) (upto n)
 rw [upto_len] at F
 rw [u]
 omega
end Go.Proofs.YtaeemilldmhbnaaGreatDoor.Fc
namespace Go.Proofs.YtaeemilldmhbnaaGreatDoor.Fc
open Go.ChangeShapes Go.WideShapes Go.ChangeAt Go.RowKit Go.Maps Rw
structure Rn (w:World) (p m:Nat) (A:Option Addr) (n c:Nat) (O:List Bool):Prop where
 rd:Rd Value.bool w w.heap.size A n c O
 ne:0 < n → ∀ g o,A=some ⟨g,o,none⟩→g≠p∧g≠m
theorem Rn.below {w w':World} {p m:Nat} {A:Option Addr} {n c:Nat} {O:List Bool} (h:Rn w p m A n c O) (u:Below w.heap.size w w'):Rn w' p m A n c O:=⟨h.rd.later u,h.ne⟩
def Sh (n:Nat) (C:List Int) (S:List Bool):Prop:=S.length=n ∧ ∀ (i:Nat) x,S[i]? = some x→x=decide ((i:Int)+1∈C)
theorem Sh.nil_:Sh 0 [] []:=⟨rfl,fun i x h=>by simp at h⟩
theorem Sh.snoc {n:Nat} {C:List Int} {S:List Bool} (h:Sh n C S) (u:∀ x∈C,1≤x∧x≤n):Sh (n+1) C (S ++ [false]):=by
 refine ⟨by simp [h.1],fun i x hx=>?_⟩
 by_cases hi:i < n
 ·rw [List.getElem?_append_left (by rw [h.1]; exact hi)] at hx
  exact h.2 i x hx
 ·have z:=(List.getElem?_eq_some_iff.1 hx).1
  simp [h.1] at z
  obtain rfl:i=n:=by omega
  rw [List.getElem?_append_right (by rw [h.1]; omega),h.1] at hx
  simp at hx
  subst hx
  symm
  exact decide_eq_false (fun F=>by have:=u _ F; omega)
theorem Sh.shut {n:Nat} {C:List Int} {S:List Bool} (h:Sh n C S) {k:Nat} (hk:k < n):Sh n (C ++ [(k:Int)+1]) (S.set k true):=by
 refine ⟨by simp [h.1],fun i x hx=>?_⟩
 rw [List.getElem?_set] at hx
 split at hx
 ·rename_i e
  subst e
  split at hx
  ·injection hx with hx
   subst hx
   simp
  ·cases hx
 ·rename_i e
  have:=h.2 i x hx
  rw [this]
  congr 1
  simp
  omega
structure Rf (w:World) (p m:Nat) (v:Value) (O P:List Bool) (n:Nat) (C:List Int):Prop where
 form:∃ A1 n1 c1 A2 n2 c2 A3 c3 S,v=.agg #[.slice A1 n1 c1,.slice A2 n2 c2,.slice A3 n c3] ∧ Rn w p m A1 n1 c1 O∧Rn w p m A2 n2 c2 P∧Rn w p m A3 n c3 S∧Sh n C S
def V3 (w:World) (g:Nat) (a b c:Value):Prop:=(w.cell? ⟨g,0,none⟩=some a∧w.cell? ⟨g,1,none⟩=some b∧w.cell? ⟨g,2,none⟩=some c)∧w.frozen? ⟨g,0,none⟩=false∧w.frozen? ⟨g,1,none⟩=false∧w.frozen? ⟨g,2,none⟩=false
theorem V3.below {w w':World} {g B:Nat} {a b c:Value} (h:V3 w g a b c) (u:Below B w w') (z:g < B):V3 w' g a b c:=
 ⟨⟨(u.cell (p:=⟨g,0,none⟩) z).trans h.1.1,(u.cell (p:=⟨g,1,none⟩) z).trans h.1.2.1,(u.cell (p:=⟨g,2,none⟩) z).trans h.1.2.2⟩,(u.frozen (p:=⟨g,0,none⟩) z).trans h.2.1,(u.frozen (p:=⟨g,1,none⟩) z).trans h.2.2.1,(u.frozen (p:=⟨g,2,none⟩) z).trans h.2.2.2⟩
theorem V3.new (w:World) (a b c:Value) (t:TypeId):V3 (w.alloc (.cells #[a,b,c] t)) w.heap.size a b c:=by
 refine ⟨⟨?_,?_,?_⟩,?_,?_,?_⟩ <;> simp
theorem own_set {w:World} {base g n c i:Nat} {e:TypeId} {xs:List Value} (h:w.ownsRow base e 1 (.slice (some ⟨g,0,none⟩) n c) n xs) (u:Value):(w.setCell ⟨g,i,none⟩ u).ownsRow base e 1 (.slice (some ⟨g,0,none⟩) n c) n (xs.set i u):=by
 rcases h.2 with ⟨z,_⟩ | ⟨g',cap,F,z,G,N,W,I,J,Y⟩
 ·cases z
 ·injection z with h1 _ h3
  injection h1 with h1
  injection h1 with h1
  subst h1 h3
  refine ⟨by simp [h.1],.inr ⟨g,c,F.setIfInBounds i u,rfl,G,?_,W,I,by simp [J],?_⟩⟩
  ·simp only [World.setCell,Array.getElem?_modify,if_true,N,Option.map_some]
   rfl
  ·rw [Array.toList_setIfInBounds,List.take_set,Y]
end Go.Proofs.YtaeemilldmhbnaaGreatDoor.Fc
namespace Go.Proofs.YtaeemilldmhbnaaGreatDoor.Fk
open Go.ChangeShapes Go.WideShapes Go.ChangeAt Go.RowKit Go.Maps Rw Fc
structure Rn (K:Nat→Prop) (w:World) (A:Option Addr) (n c:Nat) (O:List Bool):Prop where
 rd:Rd Value.bool w w.heap.size A n c O
 ne:0 < n → ∀ g o,A=some ⟨g,o,none⟩→K g
theorem Rn.nil_ (K:Nat→Prop) (w:World):Rn K w none 0 0 []:=⟨Rd.nil_,fun h=>absurd h (by omega)⟩
theorem Rn.below {K:Nat→Prop} {w w':World} {A:Option Addr} {n c:Nat} {O:List Bool} (h:Rn K w A n c O) (u:Below w.heap.size w w'):Rn K w' A n c O:=⟨h.rd.later u,h.ne⟩
theorem Rn.of_own {w:World} {K:Nat→Prop} {base:Nat} {A:Option Addr} {n c:Nat} {O:List Bool} (h:w.ownsRow base 4 1 (.slice A n c) n (O.map Value.bool)) (z:∀ g,base≤g→K g):Rn K w A n c O:=by
 refine ⟨Rd.own_rd h,fun hn g o e=>?_⟩
 have:=(h.lt g (by
  rw [e]; rcases h.2 with ⟨u,G⟩ | ⟨I,cap,F,u,_⟩
  ·omega
  ·injection u with u _ _
   rw [e] at u
   injection u with u
   injection u with u e2
   subst e2
   rfl)).1
 exact z _ this
theorem rnext_any (A:Option Addr) {K:Nat→Prop} (n c:Nat) (O:List Bool) (w:World) (h:Rn K w A n c O) :
  Calls Tryz.prog 119 #[.slice A n c] w fun e w'=>∃ A' F z q,e=.returned (.tuple #[.slice A' F z,.bool (nx O).1])∧(∀ W,Rn K W A n c O→Rn K W A' F z (nx O).2)∧w.drewN q=w':=by
 cases O with
 | nil=>
  obtain rfl:0=n:=h.rd.len
  clear h
  go_enter Tryz.func119,Tryz.ntmps119
  go_wp2_with fail
  exact bodyPost_ret (v:=.tuple #[.slice none 0 0,.bool true]) (by simp [results,Tryz.results119,go_sem]) rfl ⟨none,0,0,0,rfl,fun W _=>Rn.nil_ K W,rfl⟩
 | cons x l=>
  have hn:(x :: l).length=n:=h.rd.len
  simp at hn
  have a1:=h.rd.cap
  have a2:=h.rd.top
  obtain ⟨g,o,y,rfl,Y,hx,G⟩:=h.rd.get (k:=0) (by omega)
  obtain rfl:x=y:=by simpa using hx
  have hz:((n:Int) == 0)=false:=by simp; omega
  have a3:(n == 0)=false:=by simp; omega
  have a0:1≤n:=by omega
  simp only [Nat.add_zero] at G
  have I:=Lh h
  clear h hx hn
  by_cases hc1:c=1
  ·subst hc1
   obtain rfl:n=1:=by omega
   go_enter Tryz.func119,Tryz.ntmps119
   go_wp2_with fail
   go_region
   go_wp2_with fail
   exact bodyPost_ret (v:=.tuple #[.slice (some ⟨g,o,none⟩) 0 0,.bool x]) (by simp [results,Tryz.results119,go_sem]) rfl ⟨_,_,_,1,rfl,fun W u=>⟨u.rd.back (i:=1) (A':=some ⟨g,o,none⟩) (by omega) rfl (by omega),fun hk=>absurd hk (by omega)⟩,rfl⟩
  ·have N:1 < c:=by omega
   go_enter Tryz.func119,Tryz.ntmps119
   go_wp2_with fail
   go_region
   go_wp2_with fail
   exact bodyPost_ret (v:=.tuple #[.slice (some ⟨g,o+1,none⟩) (n - 1) (c - 1),.bool x]) (by simp [results,Tryz.results119,go_sem]) rfl ⟨_,_,_,1,rfl,fun W u=>⟨u.rd.back (i:=1) (A':=some ⟨g,o+1,none⟩) (by omega) rfl (fun _=>rfl),fun _ J o' e=>by
    injection e with e
    injection e with e1 e2
    subst e1
    exact u.ne (by omega) g o rfl⟩,rfl⟩
theorem rknown_any (z A2:Option Addr) (G c1 n2 c2:Nat) (A:Option Addr) {K:Nat→Prop} (n c:Nat) (S:List Bool) (C:List Int) (id cl:Int) (w:World) (h:Rn K w A n c S) (u:Sh n C S) (hn:n≤1000) (hid:0≤id∧id≤18446744073709551615) :
  Calls Tryz.prog 184 #[.agg #[.slice z G c1,.slice A2 n2 c2,.slice A n c],.int .u64 id,.int .i64 cl] w fun e w'=>e=.returned (.int .i64 (kn n C id cl))∧Below w.heap.size w w':=by
 by_cases h0:id=0
 ·subst h0
  have e:kn n C 0 cl=9:=by simp [kn]
  rw [e]
  clear h u
  go_enter Tryz.func184,Tryz.ntmps184
  go_wp2_with fail
  go_ret
  exact ⟨rfl,(Below.refl _ _).alloc (Nat.le_refl _) _⟩
 ·have Y:(id == 0)=false:=by simpa using h0
  by_cases h1:(n:Int) < id
  ·have I:decide ((n:Int) < id)=true:=decide_eq_true h1
   have e:kn n C id cl=9:=by simp [kn,h1]
   rw [e]
   clear h u
   go_enter Tryz.func184,Tryz.ntmps184
   go_wp2_with fail
   go_ret
   exact ⟨rfl,(Below.refl _ _).alloc (Nat.le_refl _) _⟩
  ·have I:decide ((n:Int) < id)=false:=decide_eq_false h1
   obtain ⟨k,rfl⟩:∃ k:Nat,id=(k:Int)+1:=⟨(id - 1).toNat,by omega⟩
   obtain ⟨g,o,x,rfl,N,hx,hc⟩:=h.rd.get (k:=k) (by omega)
   have F:=u.2 k x hx
   have J:=alloc_cell hc (.cells #[.slice z G c1,.slice A2 n2 c2,.slice (some ⟨g,o,none⟩) n c] 48)
   have W:k < n:=by omega
   have e:kn n C ((k:Int)+1) cl=if x then cl else 0:=by
    unfold kn
    rw [if_neg (by omega),F]
    by_cases hC:((k:Int)+1)∈C <;> simp [hC]
   rw [e]
   clear h u hx F e
   cases x
   ·go_enter Tryz.func184,Tryz.ntmps184
    go_wp2_with fail
    go_ret
    exact ⟨rfl,(Below.refl _ _).alloc (Nat.le_refl _) _⟩
   ·go_enter Tryz.func184,Tryz.ntmps184
    go_wp2_with fail
    go_ret
    exact ⟨rfl,(Below.refl _ _).alloc (Nat.le_refl _) _⟩
structure Rf (K:Nat→Prop) (w:World) (v:Value) (O P:List Bool) (n:Nat) (C:List Int):Prop where
 form:∃ A1 n1 c1 A2 n2 c2 A3 c3 S,v=.agg #[.slice A1 n1 c1,.slice A2 n2 c2,.slice A3 n c3] ∧ Rn K w A1 n1 c1 O∧Rn K w A2 n2 c2 P∧Rn K w A3 n c3 S∧Sh n C S
theorem Rf.below {K:Nat→Prop} {w w':World} {n:Nat} {v:Value} {O P:List Bool} {C:List Int} (h:Rf K w v O P n C) (u:Below w.heap.size w w'):Rf K w' v O P n C:=by
 obtain ⟨z,N,c1,A2,n2,c2,A3,c3,S,e,F,G,I,J⟩:=h.form
 exact ⟨⟨z,N,c1,A2,n2,c2,A3,c3,S,e,F.below u,G.below u,I.below u,J⟩⟩
theorem Rf.known {K:Nat→Prop} {w:World} {n:Nat} {v:Value} {O P:List Bool} {C:List Int} (h:Rf K w v O P n C) (id cl:Int) (hn:n≤1000) (hid:0≤id∧id≤18446744073709551615) :
  Calls Tryz.prog 184 #[v,.int .u64 id,.int .i64 cl] w fun e w'=>e=.returned (.int .i64 (kn n C id cl))∧Below w.heap.size w w':=by
 obtain ⟨u,G,c1,A2,n2,c2,A3,c3,S,rfl,I,J,z,F⟩:=h.form
 exact rknown_any u A2 G c1 n2 c2 A3 n c3 S C id cl w z F hn hid
theorem ropen_any {K:Nat→Prop} (v:Value) (n:Nat) (O P:List Bool) (C:List Int) (w:World) (h:Rf K w v O P n C) (hn:n≤1000) (hC:∀ x∈C,1≤x∧x≤n) (ao:∀ g,w.heap.size≤g→K g) :
  Calls Tryz.prog 54 #[v] w fun e w'=>∃ v',e=.returned (.tuple #[v',.int .u64 (if (nx O).1 then (n:Int)+1 else 0),.bool (nx O).1])∧Rf K w' v' (nx O).2 P (if (nx O).1 then n+1 else n) C∧Below w.heap.size w w':=by
 have aH:=Lh ao
 clear ao
 obtain ⟨i0,hi,aB,aC,aD⟩:=info_parts info_bool
 obtain ⟨u,z,c1,A2,n2,c2,A3,c3,S,rfl,h1,h2,h3,h4⟩:=h.form
 have HH:=Lh h
 have H1:=Lh h1
 have H2:=Lh h2
 have H3:=Lh h3
 have H4:=Lh h4
 clear h h1 h2 h3 h4
 have aq:Below w.heap.size w (w.alloc (.cells #[.slice u z c1,.slice A2 n2 c2,.slice A3 n c3] 48)):=(Below.refl _ _).alloc (Nat.le_refl _) _
 have a8:Below w.heap.size w ((w.alloc (.cells #[.slice u z c1,.slice A2 n2 c2,.slice A3 n c3] 48)).alloc (.cells #[.slice none 0 0,.slice none 0 0,.slice none 0 0] 48)):=aq.alloc (by simp) _
 have az:V3 ((w.alloc (.cells #[.slice u z c1,.slice A2 n2 c2,.slice A3 n c3] 48)).alloc (.cells #[.slice none 0 0,.slice none 0 0,.slice none 0 0] 48)) w.heap.size (.slice u z c1) (.slice A2 n2 c2) (.slice A3 n c3):=(V3.new w _ _ _ _).below ((Below.refl (w.heap.size+1) _).alloc (by simp) _) (by omega)
 have aA:V3 ((w.alloc (.cells #[.slice u z c1,.slice A2 n2 c2,.slice A3 n c3] 48)).alloc (.cells #[.slice none 0 0,.slice none 0 0,.slice none 0 0] 48)) (w.heap.size+1) (.slice none 0 0) (.slice none 0 0) (.slice none 0 0):=by have:=V3.new (w.alloc (.cells #[.slice u z c1,.slice A2 n2 c2,.slice A3 n c3] 48)) (.slice none 0 0) (.slice none 0 0) (.slice none 0 0) 48; rw [show (w.alloc (.cells #[.slice u z c1,.slice A2 n2 c2,.slice A3 n c3] 48)).heap.size=w.heap.size+1 by simp] at this; exact this
 have HB:=Lh a8
 have a6:=Lh az
 have a7:=Lh aA
 have ay:((w.alloc (.cells #[.slice u z c1,.slice A2 n2 c2,.slice A3 n c3] 48)).alloc (.cells #[.slice none 0 0,.slice none 0 0,.slice none 0 0] 48)).heap.size=w.heap.size+2:=by simp
 have HC:=Lh hC
 have ad:=Lh a8
 have RN:=rnext_any u z c1 O _ (H1.out.below a8)
 have a5:=Lh RN
 clear aq a8 az aA RN hC
 generalize nx O=r at *
 obtain ⟨ok,l⟩:=r
 cases ok
 ·simp only [Bool.false_eq_true,if_false]
  go_enter Tryz.func54,Tryz.ntmps54
  go_wp2_with fail
  refine a5.out.mono ?_
  rintro e N ⟨A',I,G,q,rfl,a4,rfl⟩
  have a2:Below (w.heap.size+2) ((w.alloc (.cells #[.slice u z c1,.slice A2 n2 c2,.slice A3 n c3] 48)).alloc (.cells #[.slice none 0 0,.slice none 0 0,.slice none 0 0] 48)) (((w.alloc (.cells #[.slice u z c1,.slice A2 n2 c2,.slice A3 n c3] 48)).alloc (.cells #[.slice none 0 0,.slice none 0 0,.slice none 0 0] 48)).drewN q):=below_drewN (Below.refl _ _) q
  have a3:=HB.out.trans (below_drewN (Below.refl w.heap.size _) q)
  obtain ⟨⟨f0,f1,f2⟩,g0,g1,g2⟩:=a6.out.below a2 (by omega)
  obtain ⟨⟨r0,r1,r2⟩,e0,e1,e2⟩:=a7.out.below a2 (by omega)
  have aO:(((w.alloc (.cells #[.slice u z c1,.slice A2 n2 c2,.slice A3 n c3] 48)).alloc (.cells #[.slice none 0 0,.slice none 0 0,.slice none 0 0] 48)).drewN q).heap.size=w.heap.size+2:=by simp
  have HN:=Lh a4
  have a1:=Lh a3
  clear HB a2 a6 a7 ay a5 a3 ad a4
  generalize (((w.alloc (.cells #[.slice u z c1,.slice A2 n2 c2,.slice A3 n c3] 48)).alloc (.cells #[.slice none 0 0,.slice none 0 0,.slice none 0 0] 48)).drewN q)=N at *
  go_wp2_with fail
  have a0:Below w.heap.size w ((((N.setCell ⟨w.heap.size,0,none⟩ (.slice A' I G)).setCell ⟨w.heap.size+1,0,none⟩ (.slice A' I G)).setCell ⟨w.heap.size+1,1,none⟩ (.slice A2 n2 c2)).setCell ⟨w.heap.size+1,2,none⟩ (.slice A3 n c3)):=by
   repeat' (first | exact a1.out | apply Below.setCell | apply below_drewN | apply Below.drew | apply Below.alloc)
   all_goals (first | (simp; done) | (simp; omega))
  refine bodyPost_ret (v:=.tuple #[.agg #[.slice A' I G,.slice A2 n2 c2,.slice A3 n c3],.int .u64 0,.bool false]) (by simp [results,Tryz.results54,go_sem,r0,r1,r2]) rfl ⟨_,rfl,⟨⟨_,_,_,_,_,_,_,_,_,rfl,HN.out _ (H1.out.below a0),H2.out.below a0,H3.out.below a0,H4.out⟩⟩,a0⟩
 ·simp only [if_true]
  go_enter Tryz.func54,Tryz.ntmps54
  go_wp2_with fail
  refine a5.out.mono ?_
  rintro e N ⟨A',I,G,q,rfl,a4,rfl⟩
  have a2:Below (w.heap.size+2) ((w.alloc (.cells #[.slice u z c1,.slice A2 n2 c2,.slice A3 n c3] 48)).alloc (.cells #[.slice none 0 0,.slice none 0 0,.slice none 0 0] 48)) (((w.alloc (.cells #[.slice u z c1,.slice A2 n2 c2,.slice A3 n c3] 48)).alloc (.cells #[.slice none 0 0,.slice none 0 0,.slice none 0 0] 48)).drewN q):=below_drewN (Below.refl _ _) q
  have a3:=HB.out.trans (below_drewN (Below.refl w.heap.size _) q)
  obtain ⟨⟨f0,f1,f2⟩,g0,g1,g2⟩:=a6.out.below a2 (by omega)
  obtain ⟨⟨r0,r1,r2⟩,e0,e1,e2⟩:=a7.out.below a2 (by omega)
  have aO:(((w.alloc (.cells #[.slice u z c1,.slice A2 n2 c2,.slice A3 n c3] 48)).alloc (.cells #[.slice none 0 0,.slice none 0 0,.slice none 0 0] 48)).drewN q).heap.size=w.heap.size+2:=by simp
  have HN:=Lh a4
  have a1:=Lh a3
  clear HB a2 a6 a7 ay a5 a3 ad a4
  generalize (((w.alloc (.cells #[.slice u z c1,.slice A2 n2 c2,.slice A3 n c3] 48)).alloc (.cells #[.slice none 0 0,.slice none 0 0,.slice none 0 0] 48)).drewN q)=N at *
  have ar:Below w.heap.size w (N.setCell ⟨w.heap.size,0,none⟩ (.slice A' I G)):=a1.out.setCell (Nat.le_refl _) _
  have ax:=(H3.out.below ar).rd
  have af:=Lh ax
  have b3:n≤1000:=hn
  clear ar ax
  go_wp2_with (
   at_builtin
   refine append_rd _ rfl _ _ 25 rfl (w.heap.size+2) 4 i0 (.bool false) 1 Tryz.underlying25 hi aB aC aD rfl _ 0 [] rfl (World.ownsRow_nil _ _ _ _) _ A3 n c3 S rfl af.out one_bool n (Nat.zero_add _) (S.map Value.bool) rfl (by unfold maxLen; omega) (by omega) (by simp; omega) ?_
   intro A5 c5 J aa au aJ
   refine Hid.out ?_)
  refine Lh ?_
  have aM:N.grownBy J none∨True:=.inr trivial
  have aN:=aa.lt
  have aL:(N.setCell ⟨w.heap.size,0,none⟩ (.slice A' I G)).heap.size=N.heap.size:=by simp
  have W:Below (w.heap.size+2) (N.setCell ⟨w.heap.size,0,none⟩ (.slice A' I G)) J:=(Below.refl _ _).grown au (by omega) (fun j hj=>by cases hj)
  have aj:J.cell? ⟨w.heap.size,0,none⟩=some (.slice A' I G):=(W.cell (p:=⟨w.heap.size,0,none⟩) (by simp)).trans (World.cell?_setCell_same _ _ _ f0)
  have ak:J.cell? ⟨w.heap.size,1,none⟩=some (.slice A2 n2 c2):=(W.cell (p:=⟨w.heap.size,1,none⟩) (by simp)).trans ((setCell_ne N 0 1 _ (by omega)).trans f1)
  have al:J.cell? ⟨w.heap.size,2,none⟩=some (.slice A3 n c3):=(W.cell (p:=⟨w.heap.size,2,none⟩) (by simp)).trans ((setCell_ne N 0 2 _ (by omega)).trans f2)
  have an:J.frozen? ⟨w.heap.size,2,none⟩=false:=(W.frozen (p:=⟨w.heap.size,2,none⟩) (by simp)).trans (by simpa using g2)
  have ro (o:Nat):(N.setCell ⟨w.heap.size,0,none⟩ (.slice A' I G)).cell? ⟨w.heap.size+1,o,none⟩=N.cell? ⟨w.heap.size+1,o,none⟩:=World.cell?_setCell_other _ _ _ _ (fun e=>by injection e with e; omega)
  have aE:J.cell? ⟨w.heap.size+1,0,none⟩=some (.slice none 0 0):=(W.cell (p:=⟨w.heap.size+1,0,none⟩) (by simp)).trans ((ro 0).trans r0)
  have aF:J.cell? ⟨w.heap.size+1,1,none⟩=some (.slice none 0 0):=(W.cell (p:=⟨w.heap.size+1,1,none⟩) (by simp)).trans ((ro 1).trans r1)
  have aG:J.cell? ⟨w.heap.size+1,2,none⟩=some (.slice none 0 0):=(W.cell (p:=⟨w.heap.size+1,2,none⟩) (by simp)).trans ((ro 2).trans r2)
  have ag:J.frozen? ⟨w.heap.size+1,0,none⟩=false:=(W.frozen (p:=⟨w.heap.size+1,0,none⟩) (by simp)).trans (by simpa using e0)
  have ah:J.frozen? ⟨w.heap.size+1,1,none⟩=false:=(W.frozen (p:=⟨w.heap.size+1,1,none⟩) (by simp)).trans (by simpa using e1)
  have ai:J.frozen? ⟨w.heap.size+1,2,none⟩=false:=(W.frozen (p:=⟨w.heap.size+1,2,none⟩) (by simp)).trans (by simpa using e2)
  have ac:=Lh ((a1.out.setCell (Nat.le_refl _) _:Below w.heap.size w (N.setCell ⟨w.heap.size,0,none⟩ (.slice A' I G))).trans (W.mono (by omega)))
  have aP:w.heap.size+2≤J.heap.size:=by have:=W.size; omega
  have a9:=Lh aa
  clear f0 f1 f2 g0 g1 g2 r0 r1 r2 e0 e1 e2 ro W a1 aa au aJ aN aL aM af
  go_wp2_with (
   at_builtin
   refine append_rd _ rfl _ _ 25 rfl (w.heap.size+2) 4 i0 (.bool false) 1 Tryz.underlying25 hi aB aC aD rfl _ n _ rfl (a9.out.alloc _) _ _ 1 1 [false] rfl (rd_one J false 4) one_bool (n+1) rfl ((S ++ [false]).map Value.bool) (by simp) (by unfold maxLen; omega) (by omega) (by simp; omega) ?_
   intro A6 c6 F aw av aK
   refine Hid.out ?_)
  refine Lh ?_
  have Y:Below (w.heap.size+2) J F:=((Below.refl _ _).alloc (by omega) _).grown av (by simp; omega) (fun j hj=>(a9.out.lt j hj).1)
  have aW:F.cell? ⟨w.heap.size,0,none⟩=some (.slice A' I G):=(Y.cell (p:=⟨w.heap.size,0,none⟩) (by simp)).trans aj
  have aX:F.cell? ⟨w.heap.size,1,none⟩=some (.slice A2 n2 c2):=(Y.cell (p:=⟨w.heap.size,1,none⟩) (by simp)).trans ak
  have aY:F.cell? ⟨w.heap.size,2,none⟩=some (.slice A3 n c3):=(Y.cell (p:=⟨w.heap.size,2,none⟩) (by simp)).trans al
  have aZ:F.frozen? ⟨w.heap.size,2,none⟩=false:=(Y.frozen (p:=⟨w.heap.size,2,none⟩) (by simp)).trans an
  have aQ:F.cell? ⟨w.heap.size+1,0,none⟩=some (.slice none 0 0):=(Y.cell (p:=⟨w.heap.size+1,0,none⟩) (by simp)).trans aE
  have aR:F.cell? ⟨w.heap.size+1,1,none⟩=some (.slice none 0 0):=(Y.cell (p:=⟨w.heap.size+1,1,none⟩) (by simp)).trans aF
  have aS:F.cell? ⟨w.heap.size+1,2,none⟩=some (.slice none 0 0):=(Y.cell (p:=⟨w.heap.size+1,2,none⟩) (by simp)).trans aG
  have aT:F.frozen? ⟨w.heap.size+1,0,none⟩=false:=(Y.frozen (p:=⟨w.heap.size+1,0,none⟩) (by simp)).trans ag
  have aU:F.frozen? ⟨w.heap.size+1,1,none⟩=false:=(Y.frozen (p:=⟨w.heap.size+1,1,none⟩) (by simp)).trans ah
  have aV:F.frozen? ⟨w.heap.size+1,2,none⟩=false:=(Y.frozen (p:=⟨w.heap.size+1,2,none⟩) (by simp)).trans ai
  have a1:=Lh (ac.out.trans (Y.mono (by omega)))
  have b2:w.heap.size+2≤F.heap.size:=by have:=Y.size; omega
  have ae:=Lh aw
  clear aj ak al an aE aF aG ag ah ai Y ac aw av aK a9 aP
  go_wp2_with fail
  go_region
  go_wp2_with fail
  have a0:Below w.heap.size w (((((F.setCell ⟨w.heap.size,2,none⟩ (.slice A6 (n+1) c6)).setCell ⟨w.heap.size+1,0,none⟩ (.slice A' I G)).setCell ⟨w.heap.size+1,1,none⟩ (.slice A2 n2 c2)).setCell ⟨w.heap.size+1,2,none⟩ (.slice A6 (n+1) c6)).drew):=by
   repeat' (first | exact a1.out | apply Below.setCell | apply below_drewN | apply Below.drew | apply Below.alloc)
   all_goals (first | (simp; done) | (simp; omega))
  have aI:Rn K (((((F.setCell ⟨w.heap.size,2,none⟩ (.slice A6 (n+1) c6)).setCell ⟨w.heap.size+1,0,none⟩ (.slice A' I G)).setCell ⟨w.heap.size+1,1,none⟩ (.slice A2 n2 c2)).setCell ⟨w.heap.size+1,2,none⟩ (.slice A6 (n+1) c6)).drew) A6 (n+1) c6 (S ++ [false]):=Rn.of_own (base:=w.heap.size+2) (Hi.own_same ae.out (fun g hg=>by
   have b0:=(ae.out.lt g hg).1
   show ((((F.setCell ⟨w.heap.size,2,none⟩ (.slice A6 (n+1) c6)).setCell ⟨w.heap.size+1,0,none⟩ (.slice A' I G)).setCell ⟨w.heap.size+1,1,none⟩ (.slice A2 n2 c2)).setCell ⟨w.heap.size+1,2,none⟩ (.slice A6 (n+1) c6)).heap[g]? = F.heap[g]?
   rw [heap_setCell_other _ _ g _ (fun e=>by have e:g=w.heap.size+1:=e; omega),heap_setCell_other _ _ g _ (fun e=>by have e:g=w.heap.size+1:=e; omega),heap_setCell_other _ _ g _ (fun e=>by have e:g=w.heap.size+1:=e; omega),heap_setCell_other _ _ g _ (fun e=>by have e:g=w.heap.size:=e; omega)])) (fun g hg=>aH.out g (by omega))
  refine bodyPost_ret (v:=.tuple #[.agg #[.slice A' I G,.slice A2 n2 c2,.slice A6 (n+1) c6],.int .u64 ((n:Int)+1),.bool true]) (by simp [results,Tryz.results54,go_sem,aQ,aR,aS]) rfl ⟨_,rfl,⟨⟨_,_,_,_,_,_,_,_,_,rfl,HN.out _ (H1.out.below a0),H2.out.below a0,aI,H4.out.snoc HC.out⟩⟩,a0⟩
theorem rclose_any {K:Nat→Prop} (v:Value) (n:Nat) (O P:List Bool) (C:List Int) (id:Int) (w:World) (h:Rf K w v O P n C) (hn:n≤1000) (hid:0≤id∧id≤18446744073709551615) (a6:∀ g,w.heap.size≤g→K g) :
  Calls Tryz.prog 129 #[v,.int .u64 id] w fun e w'=>∃ v',e=.returned (.tuple #[v',.int .i64 (kn n C id 10)])∧Rf K w' v' O P n (if kn n C id 10=0 then C ++ [id] else C)∧Below w.heap.size w w':=by
 have ag:=Lh a6
 clear a6
 obtain ⟨i0,hi,au,av,aw⟩:=info_parts info_bool
 obtain ⟨z,F,c1,A2,n2,c2,A3,c3,S,rfl,h1,h2,h3,h4⟩:=h.form
 have HH:=Lh h
 have H1:=Lh h1
 have H2:=Lh h2
 have H3:=Lh h3
 have H4:=Lh h4
 clear h h1 h2 h3 h4
 have a7:Below w.heap.size w (w.alloc (.cells #[.slice z F c1,.slice A2 n2 c2,.slice A3 n c3] 48)):=(Below.refl _ _).alloc (Nat.le_refl _) _
 have a4:Below w.heap.size w ((w.alloc (.cells #[.slice z F c1,.slice A2 n2 c2,.slice A3 n c3] 48)).alloc (.cells #[.slice none 0 0,.slice none 0 0,.slice none 0 0] 48)):=a7.alloc (by simp) _
 have ad:V3 ((w.alloc (.cells #[.slice z F c1,.slice A2 n2 c2,.slice A3 n c3] 48)).alloc (.cells #[.slice none 0 0,.slice none 0 0,.slice none 0 0] 48)) w.heap.size (.slice z F c1) (.slice A2 n2 c2) (.slice A3 n c3):=(V3.new w _ _ _ _).below ((Below.refl (w.heap.size+1) _).alloc (by simp) _) (by omega)
 have ae:V3 ((w.alloc (.cells #[.slice z F c1,.slice A2 n2 c2,.slice A3 n c3] 48)).alloc (.cells #[.slice none 0 0,.slice none 0 0,.slice none 0 0] 48)) (w.heap.size+1) (.slice none 0 0) (.slice none 0 0) (.slice none 0 0):=by have:=V3.new (w.alloc (.cells #[.slice z F c1,.slice A2 n2 c2,.slice A3 n c3] 48)) (.slice none 0 0) (.slice none 0 0) (.slice none 0 0) 48; rw [show (w.alloc (.cells #[.slice z F c1,.slice A2 n2 c2,.slice A3 n c3] 48)).heap.size=w.heap.size+1 by simp] at this; exact this
 have W:=Lh a4
 have a1:=Lh ad
 have a2:=Lh ae
 have ac:((w.alloc (.cells #[.slice z F c1,.slice A2 n2 c2,.slice A3 n c3] 48)).alloc (.cells #[.slice none 0 0,.slice none 0 0,.slice none 0 0] 48)).heap.size=w.heap.size+2:=by simp
 have HK:=Lh ((HH.out.below a4).known id 10 hn hid)
 clear a7 a4 ad ae
 by_cases hq:kn n C id 10=0
 ·have hx:1≤id∧id≤n:=by
   unfold kn at hq
   split at hq
   ·omega
   ·omega
  rw [hq] at HK ⊢
  simp only [if_true]
  obtain ⟨k,rfl⟩:∃ k:Nat,id=(k:Int)+1:=⟨(id - 1).toNat,by omega⟩
  have a9:k < n:=by omega
  clear hq hx
  go_enter Tryz.func129,Tryz.ntmps129
  go_wp2_with fail
  refine HK.out.mono ?_
  rintro e w3 ⟨rfl,I⟩
  have a0:=W.out.trans (I.mono W.out.size)
  obtain ⟨⟨f0,f1,f2⟩,g0,g1,g2⟩:=a1.out.below I (by omega)
  obtain ⟨⟨r0,r1,r2⟩,e0,e1,e2⟩:=a2.out.below I (by omega)
  have aq:w.heap.size+2≤w3.heap.size:=by have:=I.size; omega
  clear W I a1 a2 ac
  have N:=Lh a0
  clear a0 HK
  have aa:=(H3.out.below N.out).rd
  have a5:=Lh aa
  clear aa
  go_wp2_with (
   at_builtin
   refine append_rd _ rfl _ _ 25 rfl (w.heap.size+2) 4 i0 (.bool false) 1 Tryz.underlying25 hi au av aw rfl _ 0 [] rfl (World.ownsRow_nil _ _ _ _) _ A3 n c3 S rfl a5.out one_bool n (Nat.zero_add _) (S.map Value.bool) rfl (by unfold maxLen; omega) (by omega) (by omega) ?_
   intro A5 c5 u Y a8 ai
   refine Hid.out ?_)
  refine Lh ?_
  have G:Below (w.heap.size+2) w3 u:=(Below.refl _ _).grown a8 (by omega) (fun j hj=>by cases hj)
  have a3:Rd Value.bool u u.heap.size A5 n c5 S:=Rd.own_rd Y
  obtain ⟨g,o,x,rfl,aK,hx,aj⟩:=a3.get a9
  obtain rfl:o=0:=by
   rcases Y.2 with ⟨e,_⟩ | ⟨g',cap,aA,e,_⟩
   ·cases e
   ·injection e with e _ _
    injection e with e
    injection e
  have aJ:=Y.frozenAt k
  have aL:w.heap.size+2≤g:=(Y.lt g rfl).1
  have aE:u.cell? ⟨w.heap.size,0,none⟩=some (.slice z F c1):=(G.cell (p:=⟨w.heap.size,0,none⟩) (by simp)).trans f0
  have aF:u.cell? ⟨w.heap.size,1,none⟩=some (.slice A2 n2 c2):=(G.cell (p:=⟨w.heap.size,1,none⟩) (by simp)).trans f1
  have aG:u.cell? ⟨w.heap.size,2,none⟩=some (.slice A3 n c3):=(G.cell (p:=⟨w.heap.size,2,none⟩) (by simp)).trans f2
  have aH:u.frozen? ⟨w.heap.size,2,none⟩=false:=(G.frozen (p:=⟨w.heap.size,2,none⟩) (by simp)).trans g2
  have ax:u.cell? ⟨w.heap.size+1,0,none⟩=some (.slice none 0 0):=(G.cell (p:=⟨w.heap.size+1,0,none⟩) (by simp)).trans r0
  have ay:u.cell? ⟨w.heap.size+1,1,none⟩=some (.slice none 0 0):=(G.cell (p:=⟨w.heap.size+1,1,none⟩) (by simp)).trans r1
  have az:u.cell? ⟨w.heap.size+1,2,none⟩=some (.slice none 0 0):=(G.cell (p:=⟨w.heap.size+1,2,none⟩) (by simp)).trans r2
  have aB:u.frozen? ⟨w.heap.size+1,0,none⟩=false:=(G.frozen (p:=⟨w.heap.size+1,0,none⟩) (by simp)).trans e0
  have aC:u.frozen? ⟨w.heap.size+1,1,none⟩=false:=(G.frozen (p:=⟨w.heap.size+1,1,none⟩) (by simp)).trans e1
  have aD:u.frozen? ⟨w.heap.size+1,2,none⟩=false:=(G.frozen (p:=⟨w.heap.size+1,2,none⟩) (by simp)).trans e2
  have af:=Lh (N.out.trans (G.mono (by omega)))
  have aQ:w.heap.size+2≤u.heap.size:=by have:=G.size; omega
  have ah:=Lh Y
  have aI:n≤c5:=a3.cap
  have aR:c5≤9223372036854775807:=a3.top
  simp only [Nat.zero_add] at aj
  have al:g≠w.heap.size∧g≠w.heap.size+1:=⟨by omega,by omega⟩
  have an:¬ w.heap.size=g ∧ ¬ w.heap.size+1=g:=⟨by omega,by omega⟩
  obtain ⟨aM,aN⟩:=al
  obtain ⟨aO,aP⟩:=an
  clear f0 f1 f2 g0 g1 g2 r0 r1 r2 e0 e1 e2 G N Y a8 ai a5 a3 hx
  go_wp2_with fail
  have N:=af
  have J:Below w.heap.size w ((((((u.setCell ⟨g,k,none⟩ (.bool true)).setCell ⟨w.heap.size,2,none⟩ (.slice (some ⟨g,0,none⟩) n c5)).setCell ⟨w.heap.size+1,0,none⟩ (.slice z F c1)).setCell ⟨w.heap.size+1,1,none⟩ (.slice A2 n2 c2)).setCell ⟨w.heap.size+1,2,none⟩ (.slice (some ⟨g,0,none⟩) n c5))):=by
   repeat' (first | exact N.out | apply Below.setCell | apply below_drewN | apply Below.drew | apply Below.alloc)
   all_goals (first | (simp; done) | (simp; omega))
  have ar:((((((u.setCell ⟨g,k,none⟩ (.bool true)).setCell ⟨w.heap.size,2,none⟩ (.slice (some ⟨g,0,none⟩) n c5)).setCell ⟨w.heap.size+1,0,none⟩ (.slice z F c1)).setCell ⟨w.heap.size+1,1,none⟩ (.slice A2 n2 c2)).setCell ⟨w.heap.size+1,2,none⟩ (.slice (some ⟨g,0,none⟩) n c5))).ownsRow (w.heap.size+2) 4 1 (.slice (some ⟨g,0,none⟩) n c5) n ((S.set k true).map Value.bool):=by
   have q:=own_set (i:=k) ah.out (.bool true)
   rw [show (S.map Value.bool).set k (.bool true)=(S.set k true).map Value.bool by rw [List.map_set]] at q
   refine Hi.own_same q (fun g' ak=>?_)
   obtain rfl:g=g':=by simpa [Value.ownBlock] using ak
   rw [heap_setCell_other _ _ g _ (fun e=>by have e:g=w.heap.size+1:=e; omega),heap_setCell_other _ _ g _ (fun e=>by have e:g=w.heap.size+1:=e; omega),heap_setCell_other _ _ g _ (fun e=>by have e:g=w.heap.size+1:=e; omega),heap_setCell_other _ _ g _ (fun e=>by have e:g=w.heap.size:=e; omega)]
  refine bodyPost_ret (v:=.tuple #[.agg #[.slice z F c1,.slice A2 n2 c2,.slice (some ⟨g,0,none⟩) n c5],.int .i64 0]) (by simp [results,Tryz.results129,go_sem,ax,ay,az]) rfl ⟨_,rfl,⟨⟨_,_,_,_,_,_,_,_,_,rfl,H1.out.below J,H2.out.below J,Rn.of_own ar (fun g hg=>ag.out g (by omega)),H4.out.shut a9⟩⟩,J⟩
 ·rw [if_neg hq]
  generalize ao:kn n C id 10=kk at *
  clear ao
  have hb:(kk != 0)=true:=by simpa using hq
  go_enter Tryz.func129,Tryz.ntmps129
  go_wp2_with fail
  refine HK.out.mono ?_
  rintro e w3 ⟨rfl,I⟩
  have a0:=W.out.trans (I.mono W.out.size)
  obtain ⟨⟨f0,f1,f2⟩,g0,g1,g2⟩:=a1.out.below I (by omega)
  obtain ⟨⟨r0,r1,r2⟩,e0,e1,e2⟩:=a2.out.below I (by omega)
  have aq:w.heap.size+2≤w3.heap.size:=by have:=I.size; omega
  clear W I a1 a2 ac
  have N:=Lh a0
  clear a0 HK
  go_wp2_with fail
  have J:Below w.heap.size w (((w3.setCell ⟨w.heap.size+1,0,none⟩ (.slice z F c1)).setCell ⟨w.heap.size+1,1,none⟩ (.slice A2 n2 c2)).setCell ⟨w.heap.size+1,2,none⟩ (.slice A3 n c3)):=by
   repeat' (first | exact N.out | apply Below.setCell | apply below_drewN | apply Below.drew | apply Below.alloc)
   all_goals (first | (simp; done) | (simp; omega))
  refine bodyPost_ret (v:=.tuple #[.agg #[.slice z F c1,.slice A2 n2 c2,.slice A3 n c3],.int .i64 kk]) (by simp [results,Tryz.results129,go_sem,r0,r1,r2]) rfl ⟨_,rfl,⟨⟨_,_,_,_,_,_,_,_,_,rfl,H1.out.below J,H2.out.below J,H3.out.below J,H4.out⟩⟩,J⟩
end Go.Proofs.YtaeemilldmhbnaaGreatDoor.Fk
