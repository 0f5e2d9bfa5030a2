/- A part of the claim: the texts Base8 IterU. -/
import Derived.Test.YtaeemilldmhbnaaGreatDoorXBase1
import Derived.Test.YtaeemilldmhbnaaGreatDoorXGBag
import Derived.Shelf.Small.Bits
import Derived.Laws.Closers25b
import Derived.Laws.Bits64b
import Derived.Sort.LotA
import Derived.Sort.LotB
import Derived.Sort.LotC
import Derived.Deep.DeepCutAuto
import Derived.Shelf.SlIterI.Sorted
import Derived.Sort.MapsRangeIn
set_option maxRecDepth 100000
set_option maxHeartbeats 20000000
set_option linter.unusedVariables false
namespace Go.Proofs.YtaeemilldmhbnaaGreatDoor.So
open Go.ChangeShapes Go.WideShapes Go.ChangeAt Go.RowKit Rw
structure Row (w:World) (g n:Nat) (d:List Int):Prop where
 len:d.length=n
 cell:∀ j x,d[j]? = some x→w.cell? ⟨g,j,none⟩=some (.int .u64 x)
 free:∀ j,j < n→w.frozen? ⟨g,j,none⟩=false
theorem Row.get {w:World} {g n:Nat} {d:List Int} (h:Row w g n d) {j:Nat} (G:j < n):∃ x,d[j]? = some x∧w.cell? ⟨g,j,none⟩=some (.int .u64 x):=by
 have u:j < d.length:=by rw [h.len]; exact G
 exact ⟨d[j],List.getElem?_eq_getElem u,h.cell j _ (List.getElem?_eq_getElem u)⟩
theorem Row.lt {w:World} {g n:Nat} {d:List Int} (h:Row w g n d) (hn:0 < n):g < w.heap.size:=by
 obtain ⟨x,_,hc⟩:=h.get hn
 exact Lw.lt_heap hc
theorem Row.drewN {w:World} {g n:Nat} {d:List Int} (h:Row w g n d) (k:Nat):Row (w.drewN k) g n d:=⟨h.len,h.cell,h.free⟩
theorem Row.set {w:World} {g n:Nat} {d:List Int} (h:Row w g n d) {i:Nat} (hi:i < n) (x:Int):Row (w.setCell ⟨g,i,none⟩ (.int .u64 x)) g n (d.set i x):=by
 refine ⟨by rw [List.length_set]; exact h.len,fun j y u=>?_,fun j I=>by rw [World.frozen?_setCell]; exact h.free j I⟩
 rw [List.getElem?_set] at u
 obtain ⟨z,_,N⟩:=h.get hi
 split at u
 ·next e=>
  subst e
  have J:i < d.length:=by rw [h.len]; exact hi
  simp [J] at u
  subst u
  exact World.cell?_setCell_same w _ _ (by rw [N])
 ·next e=>exact (World.cell?_setCell_other w _ _ _ (fun G=>e (by injection G))).trans (h.cell j y u)
theorem grown_setCell (w:World) (g i:Nat) (v:Value):w.grownBy (w.setCell ⟨g,i,none⟩ v) (some g):=
 ⟨rfl,rfl,rfl,by simp,fun k _ hk=>Below.heap_setCell w _ v k (fun e=>hk (by rw [e]))⟩
theorem grown_drewN (w:World) (k:Nat) (r:Option Nat):w.grownBy (w.drewN k) r:=⟨rfl,rfl,rfl,Nat.le_refl _,fun _ _ _=>rfl⟩
theorem grown_drew (w:World) (r:Option Nat):w.grownBy w.drew r:=⟨rfl,rfl,rfl,Nat.le_refl _,fun _ _ _=>rfl⟩
theorem nan_any (x:Int) (w:World):Calls Tryz.prog 263 #[.int .u64 x] w fun e w'=>e=.returned (.bool false)∧w=w':=by
 go_enter Tryz.func263,Tryz.ntmps263
 go_wp2
 go_ret
 exact ⟨by simp,rfl⟩
theorem less_any (x y:Int) (w:World):Calls Tryz.prog 245 #[.int .u64 x,.int .u64 y] w fun e w'=>e=.returned (.bool (decide (x < y)))∧w=w':=by
 go_enter Tryz.func245,Tryz.ntmps245
 go_wp2_with fail
 refine (nan_any _ _).mono ?_
 rintro e w' ⟨rfl,rfl⟩
 go_wp2_with fail
 go_ret
 exact ⟨rfl,rfl⟩
theorem less_quiet {w:World} {k:Nat} (x y:Int):Calls Tryz.prog 245 #[.int .u64 x,.int .u64 y] (w.drewN k) fun e G=>e=.returned (.bool (decide (x < y))) ∧ ∃ m,G=w.drewN m:=
 (less_any x y _).mono fun _ _ ⟨h,u⟩=>⟨h,k,u.symm⟩
theorem less_quiet2 {w:World} {j k:Nat} (x y:Int):Calls Tryz.prog 245 #[.int .u64 x,.int .u64 y] (w.drewN (j+k)) fun e G=>e=.returned (.bool (decide (x < y))) ∧ ∃ m,G=w.drewN (j+m):=
 (less_any x y _).mono fun _ _ ⟨h,u⟩=>⟨h,k,u.symm⟩
structure Sw (g sb n:Nat) (d:List Int) (w w':World):Prop where
 row:Row w' g n d
 cell:∃ k:Int,w'.cell? ⟨sb,0,none⟩=some (.int .i64 k)
 free:w'.frozen? ⟨sb,0,none⟩=false
 grown:w.grownBy w' (some sb)
theorem Sw.trans {g G n:Nat} {d:List Int} {w I J:World} (h:Sw g G n d w I) (u:Sw g G n d I J):Sw g G n d w J:=⟨u.row,u.cell,u.free,h.grown.trans u.grown⟩
theorem Row.other {w:World} {g n:Nat} {d:List Int} (h:Row w g n d) {p:Addr} (G:p.block≠g) (v:Value):Row (w.setCell p v) g n d:=
 ⟨h.len,fun j x hx=>(World.cell?_setCell_other w p _ v (fun e=>G (by rw [e]))).trans (h.cell j x hx),fun j u=>by rw [World.frozen?_setCell]; exact h.free j u⟩
def Two (i j:Nat) (G:World→Prop) (e:Ending) (w':World):Prop:=∃ p q:Nat,e=.returned (.tuple #[.int .i64 p,.int .i64 q])∧((p=i∧q=j)∨(p=j∧q=i))∧G w'
theorem order2_any (g n c u:Nat) (d:List Int) (i j:Nat) (w:World) (h:Row w g n d) (hi:i < n) (W:j < n) (hn:n≤1152921504606846976) (hs:∃ k:Int,w.cell? ⟨u,0,none⟩=some (.int .i64 k)) (I:w.frozen? ⟨u,0,none⟩=false) (J:u≠g) :
  Calls Tryz.prog 274 #[.slice (some ⟨g,0,none⟩) n c,.int .i64 i,.int .i64 j,.pointer (some ⟨u,0,none⟩)] w (Two i j (Sw g u n d w)):=by
 obtain ⟨k,hk⟩:=hs
 obtain ⟨x,hx,a0⟩:=h.get hi
 obtain ⟨y,hy,a1⟩:=h.get W
 have G:=Lh h
 have N:=Lh J
 have b0:(0:Int)≤(i:Int):=by omega
 have b1:(i:Int) < (n:Int):=by omega
 have b2:(0:Int)≤(j:Int):=by omega
 have b3:(j:Int) < (n:Int):=by omega
 clear h hx hy J
 by_cases hyx:y < x
 ·have q1:decide (y < x)=true:=by simpa using hyx
  go_enter Tryz.func274,Tryz.ntmps274
  go_wp2
  go_quiet ((go_at_call 245; first | exact less_quiet _ _ | exact less_quiet2 _ _))
  go_wp2
  go_ret2
  exact ⟨j,i,rfl,.inr ⟨rfl,rfl⟩,(G.out.drewN nq).other (p:=⟨u,0,none⟩) N.out _,⟨_,World.cell?_setCell_same (w.drewN nq) ⟨u,0,none⟩ _ hk⟩,by rw [World.frozen?_setCell]; exact I,(grown_drewN _ _ _).trans (grown_setCell _ _ _ _)⟩
 ·have q1:decide (y < x)=false:=by simpa using hyx
  go_enter Tryz.func274,Tryz.ntmps274
  go_wp2
  go_quiet ((go_at_call 245; first | exact less_quiet _ _ | exact less_quiet2 _ _))
  go_wp2
  go_ret2
  exact ⟨i,j,rfl,.inl ⟨rfl,rfl⟩,G.out.drewN nq,⟨k,hk⟩,I,grown_drewN _ _ _⟩
def One (p:Nat→Prop) (G:World→Prop) (e:Ending) (w':World):Prop:=∃ r:Nat,e=.returned (.int .i64 r)∧p r∧G w'
theorem median_any (g n c u:Nat) (d:List Int) (i j k:Nat) (w:World) (h:Row w g n d) (hi:i < n) (hj:j < n) (hk:k < n) (hn:n≤1152921504606846976) (hs:∃ k:Int,w.cell? ⟨u,0,none⟩=some (.int .i64 k)) (hf:w.frozen? ⟨u,0,none⟩=false) (a0:u≠g) :
  Calls Tryz.prog 262 #[.slice (some ⟨g,0,none⟩) n c,.int .i64 i,.int .i64 j,.int .i64 k,.pointer (some ⟨u,0,none⟩)] w (One (fun r=>r=i∨r=j∨r=k) (Sw g u n d w)):=by
 have HR:=Lh h
 have HS:=Lh hs
 have J:=Lh a0
 have HF:=Lh hf
 clear h hs a0 hf
 go_enter Tryz.func262,Tryz.ntmps262
 go_wp2_with fail
 refine (order2_any g n c u d i j _ HR.out hi hj hn HS.out HF.out J.out).mono ?_
 rintro e w1 ⟨p,q,rfl,a1,N⟩
 have G:=Lh N
 have hp:p < n:=by omega
 have hq:q < n:=by omega
 have a4:=Lh a1
 clear N a1
 go_wp2_with fail
 refine (order2_any g n c u d q k _ G.out.row hq hk hn G.out.cell G.out.free J.out).mono ?_
 rintro e w2 ⟨p2,q2,rfl,a2,W⟩
 have I:=Lh W
 have a7:p2 < n:=by omega
 have a5:=Lh a2
 clear W a2
 go_wp2_with fail
 refine (order2_any g n c u d p p2 _ I.out.row hp a7 hn I.out.cell I.out.free J.out).mono ?_
 rintro e w3 ⟨p3,q3,rfl,a3,h3⟩
 have H3:=Lh h3
 have a6:=Lh a3
 clear h3 a3
 go_wp2_with fail
 go_ret
 exact ⟨q3,rfl,by have:=a4.out; have:=a5.out; have:=a6.out; omega,(G.out.trans I.out).trans H3.out⟩
theorem adjacent_any (g n c u:Nat) (d:List Int) (i:Nat) (w:World) (h:Row w g n d) (a1:1≤i) (hi:i+1 < n) (hn:n≤1152921504606846976) (N:∃ k:Int,w.cell? ⟨u,0,none⟩=some (.int .i64 k)) (I:w.frozen? ⟨u,0,none⟩=false) (J:u≠g) :
  Calls Tryz.prog 261 #[.slice (some ⟨g,0,none⟩) n c,.int .i64 i,.pointer (some ⟨u,0,none⟩)] w (One (fun r=>i≤r+1∧r≤i+1) (Sw g u n d w)):=by
 have HR:=Lh h
 have HS:=Lh N
 have a0:=Lh J
 have HF:=Lh I
 clear h N J I
 go_enter Tryz.func261,Tryz.ntmps261
 go_wp2_with fail
 rw [show (i:Int) - 1=((i - 1:Nat):Int) by omega,show (i:Int)+1=((i+1:Nat):Int) by omega]
 refine (median_any g n c u d (i - 1) i (i+1) _ HR.out (by omega) (by omega) (by omega) hn HS.out HF.out a0.out).mono ?_
 rintro e w1 ⟨r,rfl,hr,G⟩
 have W:=Lh G
 clear G
 go_wp2_with fail
 go_ret
 exact ⟨r,rfl,by omega,W.out⟩
theorem grown_new {w w':World} {o:Obj} (h:(w.alloc o).grownBy w' (some w.heap.size)) (r:Option Nat):w.grownBy w' r:=
 ⟨h.os,h.tape,h.output,by have:=h.size; simp at this; omega,fun k hk _=>(h.block k (by simp; omega) (by simp; omega)).trans (Below.heap_alloc w o k hk)⟩
def Piv (a b:Nat) (G:World→Prop) (e:Ending) (w':World):Prop:=∃ (r:Nat) (t:Int),e=.returned (.tuple #[.int .i64 r,.int .i64 t])∧a≤r∧r < b∧(t=0∨t=1∨t=2)∧G w'
end Go.Proofs.YtaeemilldmhbnaaGreatDoor.So
namespace Go.Proofs.YtaeemilldmhbnaaGreatDoor.So
open Go.ChangeShapes Go.WideShapes Go.ChangeAt Go.RowKit Rw Go.Shelf
def lenF (k:Nat):Nat:=if k=125 then 233 else if k=128 then 248 else if k=129 then 249 else 0
def lenT (k:Nat):Nat:=if k=3 then 3 else if k=4 then 4 else if k=5 then 5 else if k=9 then 9 else if k=46 then 250 else if k=51 then 322 else if k=53 then 22 else 0
def lenRen:Ren:={ f:=lenF,t:=lenT,g:=fun x=>x }
theorem lays125:Lays.n125 Tryz.prog lenRen:={
 mixed:=by kernel_rfl
 f125:=by kernel_rfl
 f128:=by kernel_rfl
 f129:=by kernel_rfl
 t3:=by kernel_rfl
 a3:=fun w=>by kernel_rfl
 z3:=fun w=>by kernel_rfl
 v3:=fun w=>by kernel_rfl
 t4:=by kernel_rfl
 a4:=fun w=>by kernel_rfl
 z4:=fun w=>by kernel_rfl
 v4:=fun w=>by kernel_rfl
 t5:=by kernel_rfl
 a5:=fun w=>by kernel_rfl
 z5:=fun w=>by kernel_rfl
 v5:=fun w=>by kernel_rfl
 t9:=by kernel_rfl
 a9:=fun w=>by kernel_rfl
 z9:=fun w=>by kernel_rfl
 v9:=fun w=>by kernel_rfl
 t46:=by kernel_rfl
 a46:=fun w=>by kernel_rfl
 z46:=fun w=>by kernel_rfl
 v46:=fun w=>by kernel_rfl
 t51:=by kernel_rfl
 a51:=fun w=>by kernel_rfl
 z51:=fun w=>by kernel_rfl
 v51:=fun w=>by kernel_rfl
 t53:=by kernel_rfl
 a53:=fun w=>by kernel_rfl
 z53:=fun w=>by kernel_rfl
 v53:=fun w=>by kernel_rfl }
theorem len_any (x:Nat) (w:World) (h:x≤18446744073709551615):Calls Tryz.prog 233 #[.int .u64 x] w fun e w'=>e=.returned (.int .i64 (Lib.bitLen x))∧w=w':=
 (Any.bits_Len lays125 x w (by omega) (by omega)).mono fun e w' ⟨u,G⟩=>⟨by simpa using u,G.symm⟩
theorem bitLen_small (x:Nat) (h:x < 256):Lib.bitLen x≤8:=Lib.bitLen_le8 ⟨x,h⟩
theorem bitLen_pow (x:Nat) (h:x < 256) (u:1≤x):2 ^ Lib.bitLen x≤2 * x:=by
 have:∀ n:Fin 256,1≤n.val→2 ^ Lib.bitLen n.val≤2 * n.val:=by decide +kernel
 exact this ⟨x,h⟩ u
def Pow (x:Nat) (w:World) (e:Ending) (w':World):Prop:=∃ m:Nat,e=.returned (.int .u64 m)∧1≤m∧m≤2 * x∧w=w'
theorem next_any (x:Nat) (w:World) (h:x < 256) (J:1≤x):Calls Tryz.prog 259 #[.int .i64 x] w (Pow x w):=by
 have G:=bitLen_pow x h J
 have N:=bitLen_small x h
 obtain ⟨L,u⟩:∃ L,Lib.bitLen x=L:=⟨_,rfl⟩
 rw [u] at G N
 have I:=Lh u
 clear u
 have hc:L=0∨L=1∨L=2∨L=3∨L=4∨L=5∨L=6∨L=7∨L=8:=by omega
 rcases hc with rfl | rfl | rfl | rfl | rfl | rfl | rfl | rfl | rfl
 all_goals
  go_enter Tryz.func259,Tryz.ntmps259
  go_wp2_with fail
  refine (len_any x _ (by omega)).mono ?_
  rintro e w' ⟨rfl,rfl⟩
  rw [I.out]
  go_wp2_with fail
  go_ret
  exact ⟨_,rfl,by decide,G,rfl⟩
def Rnd (b:Nat) (w:World) (e:Ending) (w':World):Prop:=∃ v:Nat,e=.returned (.int .u64 v)∧v < 18446744073709551616∧w'.cell? ⟨b,0,none⟩=some (.int .u64 v)∧w'.frozen? ⟨b,0,none⟩=false∧w.grownBy w' (some b)
theorem set_facts (w:World) (b:Nat) (v x:Int) (hc:w.cell? ⟨b,0,none⟩=some (.int .u64 v)) (h:w.frozen? ⟨b,0,none⟩=false) :
  ((w.setCell ⟨b,0,none⟩ (.int .u64 x)).drew).cell? ⟨b,0,none⟩=some (.int .u64 x)∧((w.setCell ⟨b,0,none⟩ (.int .u64 x)).drew).frozen? ⟨b,0,none⟩=false∧w.grownBy (w.setCell ⟨b,0,none⟩ (.int .u64 x)).drew (some b):=
 ⟨World.cell?_setCell_same w _ _ hc,(World.frozen?_setCell w _ _ _).trans h,(grown_setCell w b 0 _).trans (grown_drew _ _)⟩
theorem xor_any (b:Nat) (v:Int) (w:World) (hc:w.cell? ⟨b,0,none⟩=some (.int .u64 v)) (W:w.frozen? ⟨b,0,none⟩=false) :
  Calls Tryz.prog 260 #[.pointer (some ⟨b,0,none⟩)] w (Rnd b w):=by
 go_enter Tryz.func260,Tryz.ntmps260
 go_wp2
 go_region
 go_wp2
 generalize bits .xor .u64 v (IntKind.u64.wrap (v * 8192))=u
 obtain ⟨c1,f1,I⟩:=set_facts w b v u hc W
 have G1:=Lh I
 clear I
 generalize (w.setCell ⟨b,0,none⟩ (.int .u64 u)).drew=w1 at *
 go_region
 go_wp2
 generalize bits .xor .u64 u (u / 128)=h
 obtain ⟨c2,f2,J⟩:=set_facts w1 b u h c1 f1
 have G2:=Lh J
 clear J hc W c1 f1
 generalize (w1.setCell ⟨b,0,none⟩ (.int .u64 h)).drew=w2 at *
 go_region
 have l3:=bits_lo_u64 .xor h (IntKind.u64.wrap (h * 131072))
 have h3:=bits_hi_u64 .xor h (IntKind.u64.wrap (h * 131072))
 generalize bits .xor .u64 h (IntKind.u64.wrap (h * 131072))=v3 at *
 obtain ⟨c3,f3,N⟩:=set_facts w2 b h v3 c2 f2
 have G3:=Lh N
 clear N c2 f2
 obtain ⟨r3,a0⟩:=Int.eq_ofNat_of_zero_le l3
 have G:=Lh a0
 clear a0
 go_wp2
 go_ret
 exact ⟨r3,by rw [G.out]; rfl,by have:=G.out; omega,by rw [← G.out]; exact c3,f3,(G1.out.trans G2.out).trans G3.out⟩
end Go.Proofs.YtaeemilldmhbnaaGreatDoor.So
namespace Go.Proofs.YtaeemilldmhbnaaGreatDoor.So
open Go.ChangeShapes Go.WideShapes Go.ChangeAt Go.RowKit Rw
def St (g n rb:Nat) (d:List Int) (w w':World):Prop:=∃ (d':List Int) (v:Int),d'.Perm d∧Row w' g n d'∧w'.cell? ⟨rb,0,none⟩=some (.int .u64 v)∧w'.frozen? ⟨rb,0,none⟩=false∧w.grownBy w' (some g)
theorem grown_via {w I J:World} {g G:Nat} (h:w.grownBy I (some g)) (u:I.grownBy J (some G)) (W:w.heap.size≤G):w.grownBy J (some g):=
 ⟨u.os.trans h.os,u.tape.trans h.tape,u.output.trans h.output,Nat.le_trans h.size u.size,fun k hk N=>(u.block k (Nat.lt_of_lt_of_le hk h.size) (by simp; omega)).trans (h.block k hk N)⟩
theorem Row.grown {w w':World} {g n J:Nat} {d:List Int} (h:Row w g n d) (u:w.grownBy w' (some J)) (I:g≠J) (G:g < w.heap.size):Row w' g n d:=
 ⟨h.len,fun j x hx=>(World.cell?_of_block (u.block g G (by simp; exact I))).trans (h.cell j x hx),fun j N=>(World.frozen?_of_block (u.block g G (by simp; exact I))).trans (h.free j N)⟩
end Go.Proofs.YtaeemilldmhbnaaGreatDoor.So
namespace Go.Proofs.YtaeemilldmhbnaaGreatDoor.So
open Go.ChangeShapes Go.WideShapes Go.ChangeAt Go.RowKit Rw
open Go.Sort (swp ltInt insOuter insInner insertionSort siftDown heapBuild heapPop heapSort PermIn SortedIn swo_ltInt)
def Pq (g n:Nat) (P:Array Int→Prop) (w w':World):Prop:=∃ A:Array Int,A.size=n∧P A∧Row w' g n A.toList∧w.grownBy w' (some g)
theorem Pq.mk' {g n:Nat} {P:Array Int→Prop} {w w':World} {A:Array Int} (I:A.size=n) (u:P A) (G:w.grownBy w' (some g)) (h:Row w' g n A.toList):Pq g n P w w':=⟨A,I,u,h,G⟩
theorem Pq.start {g n:Nat} {P:Array Int→Prop} {w:World} {A:Array Int} (G:A.size=n) (u:P A) (h:Row w g n A.toList):Pq g n P w w:=⟨A,G,u,h,World.grownBy.refl _ _⟩
theorem Pq.drewN {g n:Nat} {P:Array Int→Prop} {w w':World} (h:Pq g n P w w') (k:Nat):Pq g n P w (w'.drewN k):=by
 obtain ⟨A,u,G,I,J⟩:=h
 exact ⟨A,u,G,I.drewN k,J.trans (grown_drewN _ _ _)⟩
theorem Pq.imp {g n:Nat} {P Q:Array Int→Prop} {w w':World} (h:Pq g n P w w') (f:∀ A:Array Int,A.size=n→P A→Q A):Pq g n Q w w':=by
 obtain ⟨A,u,G,I,J⟩:=h
 exact ⟨A,u,f A u G,I,J⟩
theorem Pq.trans {g n:Nat} {P:Array Int→Prop} {w u w':World} (W:w.grownBy u (some g)) (h:Pq g n P u w'):Pq g n P w w':=by
 obtain ⟨A,G,I,J,N⟩:=h
 exact ⟨A,G,I,J,W.trans N⟩
theorem bang {A:Array Int} {i:Nat} {x:Int} (h:A.toList[i]? = some x):A[i]! = x:=by
 have u:A[i]? = some x:=by rw [← Array.getElem?_toList]; exact h
 obtain ⟨hi,e⟩:=Array.getElem?_eq_some_iff.1 u
 rw [getElem!_pos A i hi]; exact e
theorem swp_list {A:Array Int} {i j:Nat} {x y:Int} (hx:A.toList[i]? = some x) (h:A.toList[j]? = some y):(swp A i j).toList=(A.toList.set i y).set j x:=by
 unfold swp
 rw [bang hx,bang h,Array.toList_setIfInBounds,Array.toList_setIfInBounds]
theorem Pq.swap {g n:Nat} {Q:Array Int→Prop} {w u w':World} {A:Array Int} {i j:Nat} {x y:Int} (hs:A.size=n) (J:w.grownBy u (some g)) (h:Row u g n A.toList) (hx:A.toList[i]? = some x) (G:A.toList[j]? = some y) (k:Nat)
  (hw:w'=((u.drewN k).setCell ⟨g,i,none⟩ (.int .u64 y)).setCell ⟨g,j,none⟩ (.int .u64 x)) (I:Q (swp A i j)):Pq g n Q w w':=by
 subst hw
 have N:i < n:=by rw [← h.len]; exact (List.getElem?_eq_some_iff.1 hx).1
 have W:j < n:=by rw [← h.len]; exact (List.getElem?_eq_some_iff.1 G).1
 refine ⟨swp A i j,by rw [Go.Sort.swp_size]; exact hs,I,?_,J.trans (((grown_drewN u k _).trans (grown_setCell _ g i _)).trans (grown_setCell _ g j _))⟩
 rw [swp_list hx G]
 exact ((h.drewN k).set N y).set W x
theorem lt_t {x y:Int} (h:x < y):ltInt x y=true:=decide_eq_true h
theorem lt_f {x y:Int} (h:¬ x < y):ltInt x y=false:=decide_eq_false h
theorem insertion_srt (g n c:Nat) (D:Array Int) (a b:Nat) (w:World) (hD:D.size=n) (h:Row w g n D.toList) (a7:a≤b) (hb:b≤n) (hn:n≤4611686018427387904) :
  Calls Tryz.prog 239 #[.slice (some ⟨g,0,none⟩) n c,.int .i64 a,.int .i64 b] w fun e w'=>e=.returned (.tuple #[])∧Pq g n (fun A=>PermIn a b D A∧SortedIn ltInt a b A) w w':=by
 have HS:=Lh (Go.Sort.insertionSort_holds swo_ltInt D a b a7 (by rw [hD]; exact hb))
 obtain ⟨T,hT⟩:∃ T,insertionSort ltInt D a b=T:=⟨_,rfl⟩
 rw [hT] at HS
 have HR:Hid (Pq g n (fun A=>insOuter ltInt a b (a+1) A=T) w w):=Lh (Pq.start hD hT h)
 clear h hT hD
 go_enter Tryz.func239,Tryz.ntmps239
 go_wp2
 go_loopw [6,7] (fun si _ wr=>∃ i:Nat,a+1≤i∧i≤n+1∧si=.int .i64 i∧Hid (Pq g n (fun A=>insOuter ltInt a b i A=T) w wr)) (fun si _ _=>n+1 - (intOf si).toNat)
 case atStart=>exact ⟨a+1,Nat.le_refl _,by omega,by go_num,HR.out⟩
 case round=>
  obtain ⟨i,ac,ad,rfl,u⟩:=hrel
  by_cases hlt:i < b
  ·go_wp2
   obtain ⟨wo,a8⟩:∃ wo:World,wo=wr:=⟨_,rfl⟩
   subst a8
   go_loopw [7] (fun sj wq=>∃ J:Int,(a:Int)≤J∧J≤i∧sj=.int .i64 J∧Hid (Pq g n (fun A=>insOuter ltInt a b (i+1) (insInner ltInt a J.toNat A)=T) w wq)) (fun sj _=>(intOf sj).toNat)
   case atStart=>exact ⟨i,by omega,by omega,rfl,u.out.imp fun A _ hA=>by rw [insOuter,if_pos hlt] at hA; exact hA⟩
   case round=>
    clear u
    obtain ⟨J,ae,af,rfl,u⟩:=hrel
    by_cases hja:(a:Int) < J
    ·obtain ⟨m,hm⟩:=Int.eq_ofNat_of_zero_le (show 0≤J - 1 by omega)
     have ag:0≤J:=by omega
     have ah:J < (n:Int):=by omega
     have a4:J.toNat=m+1:=by omega
     obtain ⟨d1,a6,a5,N,a3⟩:=u.out
     obtain ⟨x,hx,a9⟩:=N.get (show J.toNat < n by omega)
     obtain ⟨y,hy,aa⟩:=N.get (show m < n by omega)
     have fx:=N.free J.toNat (by omega)
     have fy:=N.free m (by omega)
     have b2:(0:Int)≤(m:Int):=by omega
     have b3:(m:Int) < (n:Int):=by omega
     have ai:J.toNat≠m:=by omega
     have w1:IntKind.i64.wrap (J - 1)=(m:Int):=by rw [hm]; exact IntWalk.i64_in _ (by omega)
     have HX:=Lh hx
     have HY:=Lh hy
     have a1:=Lh N
     have a0:=Lh a5
     have HM:=Lh hm
     have W:=Lh a4
     have a2:=Lh a6
     have qa:decide ((a:Int) < J)=true:=by simpa using hja
     clear hx hy N a5 u hm a4 a6
     by_cases hxy:x < y
     ·have q1:decide (x < y)=true:=by simpa using hxy
      have G:Hid (insOuter ltInt a b (i+1) (insInner ltInt a m (swp d1 J.toNat m))=T):=Lh (by
       have I:=a0.out
       have ex:=bang HX.out
       have ey:=bang HY.out
       rw [W.out] at I ex ⊢
       rw [insInner,ex,ey,lt_t hxy,Bool.and_true,if_pos (decide_eq_true (by have:=W.out; omega))] at I
       exact I)
      go_wp2
      go_quiet ((go_at_call 245; first | exact less_quiet _ _ | exact less_quiet2 _ _))
      go_wp2
      go_region
      go_wp2
      go_roundw
      case rel=>exact ⟨m,by have:=HM.out; omega,by have:=HM.out; omega,by go_num,Pq.swap a2.out (a3.trans (grown_drewN _ nq _)) (a1.out.drewN nq) HX.out HY.out 1 rfl G.out⟩
      case measure=>simp [intOf]; have:=W.out; omega
     ·have q1:decide (x < y)=false:=by simpa using hxy
      have G:Hid (insOuter ltInt a b (i+1) d1=T):=Lh (by
       have I:=a0.out
       have ex:=bang HX.out
       have ey:=bang HY.out
       rw [W.out] at I ex
       rw [insInner,ex,ey,lt_f hxy,Bool.and_false,if_neg (by decide)] at I
       exact I)
      go_wp2
      go_quiet ((go_at_call 245; first | exact less_quiet _ _ | exact less_quiet2 _ _))
      go_wp2
      go_roundw
      case rel=>exact ⟨i+1,by omega,by omega,by go_num,(Pq.mk' a2.out G.out a3 a1.out).drewN _⟩
      case measure=>simp [intOf]; omega
    ·have qa:decide ((a:Int) < J)=false:=by simpa using hja
     have G:Hid (Pq g n (fun A=>insOuter ltInt a b (i+1) A=T) w wr):=Lh (u.out.imp fun A _ hA=>by
      cases hJ:J.toNat with
      | zero=>rw [hJ,insInner] at hA; exact hA
      | succ k=>
       rw [hJ,insInner,decide_eq_false (by omega),Bool.false_and,if_neg (by decide)] at hA
       exact hA)
     clear u
     go_wp2
     go_quiet (fail)
     go_wp2
     go_roundw
     case rel=>exact ⟨i+1,by omega,by omega,by go_num,G.out.drewN _⟩
     case measure=>simp [intOf]; omega
  ·have G:Hid (Pq g n (fun A=>PermIn a b D A∧SortedIn ltInt a b A) w wr):=Lh (u.out.imp fun A _ hA=>by
    rw [insOuter,if_neg hlt] at hA
    rw [hA]; exact HS.out)
   clear u
   go_wp2
   go_end0
   exact ⟨rfl,G.out⟩
end Go.Proofs.YtaeemilldmhbnaaGreatDoor.So
namespace Go.Proofs.YtaeemilldmhbnaaGreatDoor.So
open Go.ChangeShapes Go.WideShapes Go.ChangeAt Go.RowKit Rw
open Go.Sort (swp ltInt siftDown heapBuild heapPop heapSort PermIn SortedIn swo_ltInt)
theorem sift_done {hi f r:Nat} {A:Array Int} (h:hi≤2 * r+1):siftDown ltInt hi f r A=A:=by rw [siftDown,dif_pos h]
section
variable {hi f r k:Nat} {A:Array Int} {x y z:Int}
theorem sift_right_go (hk:k=2 * r+1) (u:k+1 < hi) (hx:A[f+k]! = x) (h:A[f+k+1]! = y) (I:A[f+r]! = z) (G:x < y) (J:z < y):siftDown ltInt hi f r A=siftDown ltInt hi f (k+1) (swp A (f+r) (f+k+1)):=by
 subst hk
 have e:f+(2 * r+1)+1=f+(2 * r+2):=by omega
 conv=>lhs; rw [siftDown]
 rw [dif_neg (by omega),hx,h,lt_t G,decide_eq_true u,Bool.and_true,if_pos rfl]
 rw [e] at h
 rw [I,h,lt_t J,if_neg (by decide),dif_pos (by omega)]
 rfl
theorem sift_right_stop (hk:k=2 * r+1) (u:k+1 < hi) (hx:A[f+k]! = x) (h:A[f+k+1]! = y) (I:A[f+r]! = z) (G:x < y) (J:¬ z < y):siftDown ltInt hi f r A=A:=by
 subst hk
 have e:f+(2 * r+1)+1=f+(2 * r+2):=by omega
 rw [siftDown,dif_neg (by omega),hx,h,lt_t G,decide_eq_true u,Bool.and_true,if_pos rfl]
 rw [e] at h
 rw [I,h,lt_f J,if_pos (by decide)]
theorem sift_cond (hx:A[f+(2 * r+1)]! = x) (h:¬ 2 * r+1+1 < hi ∨ ∃ y,A[f+(2 * r+1)+1]! = y ∧ ¬ x < y):(decide (2 * r+1+1 < hi) && ltInt A[f+(2 * r+1)]! A[f+(2 * r+1)+1]!)=false:=by
 rcases h with h | ⟨y,G,u⟩
 ·rw [decide_eq_false h,Bool.false_and]
 ·rw [hx,G,lt_f u,Bool.and_false]
theorem sift_left_go (hk:k=2 * r+1) (I:k < hi) (hx:A[f+k]! = x) (u:A[f+r]! = z) (h:¬ k+1 < hi ∨ ∃ y,A[f+k+1]! = y ∧ ¬ x < y) (G:z < x):siftDown ltInt hi f r A=siftDown ltInt hi f k (swp A (f+r) (f+k)):=by
 subst hk
 conv=>lhs; rw [siftDown]
 rw [dif_neg (by omega),sift_cond hx h,if_neg (by decide),u,hx,lt_t G,if_neg (by decide)]
theorem sift_left_stop (hk:k=2 * r+1) (I:k < hi) (hx:A[f+k]! = x) (u:A[f+r]! = z) (h:¬ k+1 < hi ∨ ∃ y,A[f+k+1]! = y ∧ ¬ x < y) (G:¬ z < x):siftDown ltInt hi f r A=A:=by
 subst hk
 rw [siftDown,dif_neg (by omega),sift_cond hx h,if_neg (by decide),u,hx,lt_f G,if_pos (by decide)]
end
theorem sift_srt (g n c:Nat) (D T:Array Int) (lo hi f:Nat) (w:World) (hD:D.size=n) (hT:siftDown ltInt hi f lo D=T) (h:Row w g n D.toList) (hb:f+hi≤n) (hl:lo≤n) (hn:n≤1152921504606846976) :
  Calls Tryz.prog 258 #[.slice (some ⟨g,0,none⟩) n c,.int .i64 lo,.int .i64 hi,.int .i64 f] w fun e w'=>e=.returned (.tuple #[])∧Pq g n (fun A=>A=T) w w':=by
 have HR:Hid (Pq g n (fun A=>siftDown ltInt hi f lo A=T) w w):=Lh (Pq.start hD hT h)
 clear h hT hD
 go_enter Tryz.func258,Tryz.ntmps258
 go_wp2
 go_loopw [8,9] (fun sr _ wr=>∃ r:Nat,r≤n∧sr=.int .i64 r∧Hid (Pq g n (fun A=>siftDown ltInt hi f r A=T) w wr)) (fun sr _ _=>n - (intOf sr).toNat)
 case atStart=>exact ⟨lo,hl,rfl,HR.out⟩
 case round=>
  obtain ⟨r,hr,rfl,a3⟩:=hrel
  by_cases hk:2 * r+1 < hi
  ·have a4:(2:Int) * (r:Int)+1 < (hi:Int):=by omega
   obtain ⟨d1,a8,a7,a0,N⟩:=a3.out
   obtain ⟨k,a5⟩:∃ k:Nat,k=2 * r+1:=⟨_,rfl⟩
   have a6:=a5
   have af:r < k:=by omega
   have a2:k < hi:=by omega
   have e1:(2:Int) * (r:Int)+1=(k:Int):=by omega
   clear a5 a4 hk
   obtain ⟨x,hx,a9⟩:=a0.get (show f+k < n by omega)
   obtain ⟨z,hz,ac⟩:=a0.get (show f+r < n by omega)
   have fz:=a0.free (f+r) (by omega)
   have fx:=a0.free (f+k) (by omega)
   have w1:IntKind.i64.wrap ((k:Int)+1)=(k:Int)+1:=IntWalk.i64_in _ (by omega)
   have w2:IntKind.i64.wrap ((f:Int)+(k:Int))=(f:Int)+(k:Int):=IntWalk.i64_in _ (by omega)
   have w3:IntKind.i64.wrap ((f:Int)+(k:Int)+1)=(f:Int)+(k:Int)+1:=IntWalk.i64_in _ (by omega)
   have w4:IntKind.i64.wrap ((f:Int)+(r:Int))=(f:Int)+(r:Int):=IntWalk.i64_in _ (by omega)
   have t2:((f:Int)+(k:Int)).toNat=f+k:=by omega
   have t3:((f:Int)+(k:Int)+1).toNat=f+k+1:=by omega
   have t4:((f:Int)+(r:Int)).toNat=f+r:=by omega
   have b2:(0:Int)≤(f:Int)+(k:Int):=by omega
   have b3:(f:Int)+(k:Int) < (n:Int):=by omega
   have b4:(0:Int)≤(f:Int)+(r:Int):=by omega
   have b5:(f:Int)+(r:Int) < (n:Int):=by omega
   have b6:(0:Int)≤(f:Int)+(k:Int)+1:=by omega
   have ad:r≠k:=by omega
   have W:=Lh hx
   have J:=Lh hz
   have G:=Lh a0
   have a1:=Lh a7
   have I:=Lh a8
   have HK:=Lh a6
   clear hx hz a7 a3 a8 a6
   by_cases hk1:k+1 < hi
   ·obtain ⟨y,hy,aa⟩:=a0.get (show f+k+1 < n by omega)
    have fy:=a0.free (f+k+1) (by omega)
    have HY:=Lh hy
    have b7:(f:Int)+(k:Int)+1 < (n:Int):=by omega
    have q3:decide ((k:Int)+1 < (hi:Int))=true:=by simp; omega
    clear hy a0
    by_cases hxy:x < y
    ·have q4:decide (x < y)=true:=by simpa using hxy
     have w5:IntKind.i64.wrap ((f:Int)+((k:Int)+1))=(f:Int)+((k:Int)+1):=IntWalk.i64_in _ (by omega)
     have t5:((f:Int)+((k:Int)+1)).toNat=f+k+1:=by omega
     have b8:(0:Int)≤(f:Int)+((k:Int)+1):=by omega
     have b9:(f:Int)+((k:Int)+1) < (n:Int):=by omega
     have ae:¬ r=k+1:=by omega
     by_cases hzm:z < y
     ·have q5:decide (z < y)=true:=by simpa using hzm
      have u:Hid (siftDown ltInt hi f (k+1) (swp d1 (f+r) (f+k+1))=T):=Lh ((sift_right_go HK.out hk1 (bang W.out) (bang HY.out) (bang J.out) hxy hzm).symm.trans a1.out)
      go_wp2
      go_quiet ((go_at_call 245; first | exact less_quiet _ _ | exact less_quiet2 _ _))
      go_wp2
      go_quiet ((go_at_call 245; first | exact less_quiet _ _ | exact less_quiet2 _ _))
      go_wp2
      go_region
      go_wp2
      go_roundw
      case rel=>exact ⟨k+1,by omega,by go_num,by first | exact Pq.swap I.out (N.trans (grown_drewN _ _ _)) (G.out.drewN _) J.out HY.out 1 rfl u.out | exact Pq.swap I.out ((N.trans (grown_drewN _ _ _)).trans (grown_drewN _ _ _)) ((G.out.drewN _).drewN _) J.out HY.out 1 rfl u.out⟩
      case measure=>simp [intOf]; omega
     ·have q5:decide (z < y)=false:=by simpa using hzm
      have u:Hid (d1=T):=Lh ((sift_right_stop HK.out hk1 (bang W.out) (bang HY.out) (bang J.out) hxy hzm).symm.trans a1.out)
      have q6:y≤z:=by omega
      go_wp2
      go_quiet ((go_at_call 245; first | exact less_quiet _ _ | exact less_quiet2 _ _))
      go_wp2
      go_quiet ((go_at_call 245; first | exact less_quiet _ _ | exact less_quiet2 _ _))
      go_wp2
      refine bodyPost_ret (v:=.tuple #[]) (by simp [results,Tryz.results258]) rfl ?_
      exact ⟨rfl,by first | exact (Pq.mk' I.out u.out N G.out).drewN _ | exact ((Pq.mk' I.out u.out N G.out).drewN _).drewN _⟩
    ·have q4:decide (x < y)=false:=by simpa using hxy
     by_cases hzm:z < x
     ·have q5:decide (z < x)=true:=by simpa using hzm
      have u:Hid (siftDown ltInt hi f k (swp d1 (f+r) (f+k))=T):=Lh ((sift_left_go HK.out a2 (bang W.out) (bang J.out) (.inr ⟨_,bang HY.out,hxy⟩) hzm).symm.trans a1.out)
      go_wp2
      go_quiet ((go_at_call 245; first | exact less_quiet _ _ | exact less_quiet2 _ _))
      go_wp2
      go_quiet ((go_at_call 245; first | exact less_quiet _ _ | exact less_quiet2 _ _))
      go_wp2
      go_region
      go_wp2
      go_roundw
      case rel=>exact ⟨k,by omega,by go_num,by first | exact Pq.swap I.out (N.trans (grown_drewN _ _ _)) (G.out.drewN _) J.out W.out 1 rfl u.out | exact Pq.swap I.out ((N.trans (grown_drewN _ _ _)).trans (grown_drewN _ _ _)) ((G.out.drewN _).drewN _) J.out W.out 1 rfl u.out⟩
      case measure=>simp [intOf]; omega
     ·have q5:decide (z < x)=false:=by simpa using hzm
      have u:Hid (d1=T):=Lh ((sift_left_stop HK.out a2 (bang W.out) (bang J.out) (.inr ⟨_,bang HY.out,hxy⟩) hzm).symm.trans a1.out)
      have q6:x≤z:=by omega
      go_wp2
      go_quiet ((go_at_call 245; first | exact less_quiet _ _ | exact less_quiet2 _ _))
      go_wp2
      go_quiet ((go_at_call 245; first | exact less_quiet _ _ | exact less_quiet2 _ _))
      go_wp2
      refine bodyPost_ret (v:=.tuple #[]) (by simp [results,Tryz.results258]) rfl ?_
      exact ⟨rfl,by first | exact (Pq.mk' I.out u.out N G.out).drewN _ | exact ((Pq.mk' I.out u.out N G.out).drewN _).drewN _⟩
   ·have q3:decide ((k:Int)+1 < (hi:Int))=false:=by simp; omega
    clear a0
    by_cases hzm:z < x
    ·have q5:decide (z < x)=true:=by simpa using hzm
     have u:Hid (siftDown ltInt hi f k (swp d1 (f+r) (f+k))=T):=Lh ((sift_left_go HK.out a2 (bang W.out) (bang J.out) (.inl hk1) hzm).symm.trans a1.out)
     go_wp2
     go_quiet (fail)
     go_wp2
     go_quiet ((go_at_call 245; first | exact less_quiet _ _ | exact less_quiet2 _ _))
     go_wp2
     go_region
     go_wp2
     go_roundw
     case rel=>exact ⟨k,by omega,by go_num,by first | exact Pq.swap I.out (N.trans (grown_drewN _ _ _)) (G.out.drewN _) J.out W.out 1 rfl u.out | exact Pq.swap I.out ((N.trans (grown_drewN _ _ _)).trans (grown_drewN _ _ _)) ((G.out.drewN _).drewN _) J.out W.out 1 rfl u.out⟩
     case measure=>simp [intOf]; omega
    ·have q5:decide (z < x)=false:=by simpa using hzm
     have u:Hid (d1=T):=Lh ((sift_left_stop HK.out a2 (bang W.out) (bang J.out) (.inl hk1) hzm).symm.trans a1.out)
     have q6:x≤z:=by omega
     go_wp2
     go_quiet (fail)
     go_wp2
     go_quiet ((go_at_call 245; first | exact less_quiet _ _ | exact less_quiet2 _ _))
     go_wp2
     refine bodyPost_ret (v:=.tuple #[]) (by simp [results,Tryz.results258]) rfl ?_
     exact ⟨rfl,by first | exact (Pq.mk' I.out u.out N G.out).drewN _ | exact ((Pq.mk' I.out u.out N G.out).drewN _).drewN _⟩
  ·have a4:(hi:Int)≤(2:Int) * (r:Int)+1:=by omega
   have u:Hid (Pq g n (fun A=>A=T) w wr):=Lh (a3.out.imp fun A _ hA=>by rw [sift_done (by omega)] at hA; exact hA)
   clear a3
   go_wp2
   go_end0
   exact ⟨rfl,u.out⟩
theorem sift_zero' (g n c:Nat) (D T:Array Int) (hi f:Nat) (w:World) (u:D.size=n) (G:siftDown ltInt hi f 0 D=T) (h:Row w g n D.toList) (I:f+hi≤n) (hn:n≤1152921504606846976) :
  Calls Tryz.prog 258 #[.slice (some ⟨g,0,none⟩) n c,.int .i64 0,.int .i64 hi,.int .i64 f] w fun e w'=>e=.returned (.tuple #[])∧Pq g n (fun A=>A=T) w w':=
 sift_srt g n c D T 0 hi f w u G h I (Nat.zero_le _) hn
theorem heap_srt (g n c:Nat) (D:Array Int) (a b:Nat) (w:World) (hD:D.size=n) (h:Row w g n D.toList) (ha:a < b) (hb:b≤n) (hn:n≤1152921504606846976) :
  Calls Tryz.prog 240 #[.slice (some ⟨g,0,none⟩) n c,.int .i64 a,.int .i64 b] w fun e w'=>e=.returned (.tuple #[])∧Pq g n (fun A=>PermIn a b D A∧SortedIn ltInt a b A) w w':=by
 have HS:=Lh (Go.Sort.heapSort_holds swo_ltInt D a b (by omega) (by rw [hD]; exact hb))
 obtain ⟨T,hT⟩:∃ T,heapSort ltInt D a b=T:=⟨_,rfl⟩
 rw [hT] at HS
 have HR:Hid (Pq g n (fun A=>heapPop ltInt a (b - a) (heapBuild ltInt (b - a) a ((b - a - 1) / 2+1) A)=T) w w):=Lh (Pq.start hD hT h)
 clear h hT hD
 obtain ⟨q,hq⟩:∃ q:Nat,b=a+q:=⟨b - a,by omega⟩
 have e1:(b:Int) - (a:Int)=(q:Int):=by omega
 have a7:b - a=q:=by omega
 rw [a7] at HR
 have aj:1≤q:=by omega
 have a9:a+q≤n:=by omega
 clear hq a7
 go_enter Tryz.func240,Tryz.ntmps240
 go_wp2
 go_loopw [9] (fun J wr=>∃ i:Int,-1≤i∧i≤q∧J=.int .i64 i∧Hid (Pq g n (fun A=>heapPop ltInt a q (heapBuild ltInt q a (i+1).toNat A)=T) w wr)) (fun J _=>(intOf J+1).toNat)
 case atStart=>exact ⟨((q:Int) - 1) / 2,by omega,by omega,rfl,by rw [show (((q:Int) - 1) / 2+1).toNat=(q - 1) / 2+1 by omega]; exact HR.out⟩
 case round=>
  obtain ⟨i,ae,af,rfl,G⟩:=hrel
  by_cases hlt:0≤i
  ·obtain ⟨m,rfl⟩:=Int.eq_ofNat_of_zero_le hlt
   obtain ⟨d1,a1,a0,I,a5⟩:=G.out
   have a3:=Lh I
   have a2:=Lh a0
   have a4:=Lh a1
   clear I a0 G a1
   go_wp2_with fail
   refine (sift_srt g n c d1 _ m q a _ a4.out rfl a3.out a9 (by omega) hn).mono ?_
   rintro e w2 ⟨rfl,u⟩
   have N:=Lh u
   clear u
   go_wp2_with fail
   go_roundw
   case rel=>exact ⟨(m:Int) - 1,by omega,by omega,rfl,Pq.trans a5 (N.out.imp fun A _ hA=>by rw [hA,show ((m:Int) - 1+1).toNat=m by omega]; have W:=a2.out; rw [show ((m:Int)+1).toNat=m+1 by omega,heapBuild] at W; exact W)⟩
   case measure=>simp [intOf] <;> omega
  ·have a6:Hid (Pq g n (fun A=>heapPop ltInt a q A=T) w wr):=Lh (G.out.imp fun A _ hA=>by rw [show (i+1).toNat=0 by omega,heapBuild] at hA; exact hA)
   clear G
   go_wp2
   obtain ⟨wo,aa⟩:∃ wo:World,wo=wr:=⟨_,rfl⟩
   subst aa
   go_loopw [10] (fun J wq=>∃ i:Int,-1≤i∧i < q∧J=.int .i64 i∧Hid (Pq g n (fun A=>heapPop ltInt a (i+1).toNat A=T) w wq)) (fun J _=>(intOf J+1).toNat)
   case atStart=>exact ⟨(q:Int) - 1,by omega,by omega,rfl,by rw [show ((q:Int) - 1+1).toNat=q by omega]; exact a6⟩
   case round=>
    clear a6
    obtain ⟨j,ag,ah,rfl,G⟩:=hrel
    by_cases hjt:0≤j
    ·obtain ⟨m,rfl⟩:=Int.eq_ofNat_of_zero_le hjt
     obtain ⟨d1,a1,a0,I,a5⟩:=G.out
     obtain ⟨x,hx,ad⟩:=I.get (show a < n by omega)
     obtain ⟨y,hy,a8⟩:=I.get (show a+m < n by omega)
     have fx:=I.free a (by omega)
     have fy:=I.free (a+m) (by omega)
     have w1:IntKind.i64.wrap ((a:Int)+(m:Int))=(a:Int)+(m:Int):=IntWalk.i64_in _ (by omega)
     have t1:((a:Int)+(m:Int)).toNat=a+m:=by omega
     have b0:(0:Int)≤(a:Int):=by omega
     have b1:(a:Int) < (n:Int):=by omega
     have b2:(0:Int)≤(a:Int)+(m:Int):=by omega
     have b3:(a:Int)+(m:Int) < (n:Int):=by omega
     have HX:=Lh hx
     have HY:=Lh hy
     have a3:=Lh I
     have a2:=Lh a0
     have a4:=Lh a1
     clear hx hy I a0 G a1
     by_cases hm0:m=0
     ·subst hm0
      simp only [Nat.add_zero] at a8 fy HY
      have ac:x=y:=by have h1:=HX.out; have u:=HY.out; rw [h1] at u; injection u
      subst ac
      go_wp2
      go_region
      go_wp2_with fail
      refine (sift_zero' g n c (swp d1 a a) _ 0 a _ (by rw [Go.Sort.swp_size]; exact a4.out) rfl ?_ (by omega) hn).mono ?_
      ·rw [swp_list HX.out HX.out]; exact ((a3.out.drewN 1).set (by omega) x).set (by omega) x
      rintro e w2 ⟨rfl,u⟩
      have N:=Lh u
      clear u
      go_wp2_with fail
      go_roundw
      case rel=>exact ⟨-1,by omega,by omega,by go_num,Pq.trans (((a5.trans (grown_drewN _ 1 _)).trans (grown_setCell _ _ _ _)).trans (grown_setCell _ _ _ _)) (N.out.imp fun A _ hA=>by rw [hA]; exact a2.out)⟩
      case measure=>simp [intOf]
     ·have ai:¬ m=0:=hm0
      go_wp2
      go_region
      go_wp2_with fail
      refine (sift_zero' g n c (swp d1 a (a+m)) _ m a _ (by rw [Go.Sort.swp_size]; exact a4.out) rfl ?_ (by omega) hn).mono ?_
      ·rw [swp_list HX.out HY.out]; exact ((a3.out.drewN 1).set (by omega) y).set (by omega) x
      rintro e w2 ⟨rfl,u⟩
      have N:=Lh u
      clear u
      go_wp2_with fail
      go_roundw
      case rel=>exact ⟨(m:Int) - 1,by omega,by omega,rfl,Pq.trans (((a5.trans (grown_drewN _ 1 _)).trans (grown_setCell _ _ _ _)).trans (grown_setCell _ _ _ _)) (N.out.imp fun A _ hA=>by rw [hA,show ((m:Int) - 1+1).toNat=m by omega]; have W:=a2.out; rw [show ((m:Int)+1).toNat=m+1 by omega,heapPop] at W; exact W)⟩
      case measure=>simp [intOf] <;> omega
    ·have HQ:Hid (Pq g n (fun A=>PermIn a b D A∧SortedIn ltInt a b A) w wr):=Lh (G.out.imp fun A _ hA=>by rw [show (j+1).toNat=0 by omega,heapPop] at hA; rw [hA]; exact HS.out)
     clear G
     go_wp2
     go_end0
     exact ⟨rfl,HQ.out⟩
end Go.Proofs.YtaeemilldmhbnaaGreatDoor.So
namespace Go.Proofs.YtaeemilldmhbnaaGreatDoor.So
open Go.ChangeShapes Go.WideShapes Go.ChangeAt Go.RowKit Rw
open Go.Sort (swp ltInt PermIn SortedIn)
def plt (pv x:Int):Bool:=decide (x < pv)
def ple (pv x:Int):Bool:=decide (x≤pv)
structure Pt (p:Int→Bool) (D:Array Int) (a b:Nat) (pv:Int) (i j:Int) (A:Array Int):Prop where
 perm:PermIn a b D A
 piv:A[a]! = pv
 lo:∀ k:Nat,a < k→(k:Int) < i→p A[k]! = true
 hi:∀ k:Nat,j < (k:Int)→k < b→p A[k]! = false
structure Split (D:Array Int) (a b:Nat) (pv:Int) (r:Nat) (A:Array Int):Prop where
 perm:PermIn a b D A
 piv:A[r]! = pv
 lo:∀ k:Nat,a≤k→k < r→A[k]! < pv
 hi:∀ k:Nat,r < k→k < b→pv≤A[k]!
structure SplitE (D:Array Int) (a b:Nat) (pv:Int) (r:Nat) (A:Array Int):Prop where
 perm:PermIn a b D A
 lo:∀ k:Nat,a≤k→k < r→A[k]! ≤ pv
 hi:∀ k:Nat,r≤k→k < b→pv < A[k]!
section
variable {p:Int→Bool} {D A:Array Int} {a b:Nat} {pv i j x:Int}
theorem Pt.up (h:Pt p D a b pv i j A) (hi:0≤i) (hx:A[i.toNat]! = x) (G:p x=true):Pt p D a b pv (i+1) j A:=
 ⟨h.perm,h.piv,fun k u I=>by
  by_cases e:(k:Int)=i
  ·rw [show k=i.toNat by omega,hx]; exact G
  ·exact h.lo k u (by omega),h.hi⟩
theorem Pt.down (h:Pt p D a b pv i j A) (J:0≤j) (hx:A[j.toNat]! = x) (G:p x=false):Pt p D a b pv i (j - 1) A:=
 ⟨h.perm,h.piv,h.lo,fun k I u=>by
  by_cases e:(k:Int)=j
  ·rw [show k=j.toNat by omega,hx]; exact G
  ·exact h.hi k (by omega) u⟩
theorem Pt.swap (h:Pt p D a b pv i j A) (ha:(a:Int) < i) (J:i < j) (N:j < b) (I:b≤A.size) (u:p A[i.toNat]! = false) (G:p A[j.toNat]! = true):Pt p D a b pv (i+1) (j - 1) (swp A i.toNat j.toNat):=by
 refine ⟨Go.Sort.permIn_trans _ _ _ _ _ h.perm (Go.Sort.swp_permIn A a b _ _ (by omega) (by omega) (by omega) (by omega) I),?_,fun k k1 k2=>?_,fun k k1 k2=>?_⟩
 ·rw [Go.Sort.swp_other A _ _ a (by omega) (by omega)]; exact h.piv
 ·by_cases e:(k:Int)=i
  ·rw [show k=i.toNat by omega,Go.Sort.swp_left A _ _ (by omega) (by omega)]; exact G
  ·rw [Go.Sort.swp_other A _ _ k (by omega) (by omega)]; exact h.lo k k1 (by omega)
 ·by_cases e:(k:Int)=j
  ·rw [show k=j.toNat by omega,Go.Sort.swp_right A _ _ (by omega)]; exact u
  ·rw [Go.Sort.swp_other A _ _ k (by omega) (by omega)]; exact h.hi k (by omega) k2
theorem Pt.init {q:Nat} (h:D[q]! = pv) (ha:a≤q) (G:q < b) (u:b≤D.size) (hA:A=D):Pt p D a b pv ((a:Int)+1) ((b:Int) - 1) (swp A a q):=by
 subst hA
 refine ⟨Go.Sort.swp_permIn A a b _ _ (Nat.le_refl _) (by omega) ha G u,?_,fun k k1 k2=>by omega,fun k k1 k2=>by omega⟩
 by_cases e:a=q
 ·subst e; rw [Go.Sort.swp_right A _ _ (by omega)]; exact h
 ·rw [Go.Sort.swp_left A _ _ (by omega) e]; exact h
theorem Pt.fin (h:Pt (plt pv) D a b pv i j A) (I:j < i) (ha:(a:Int)≤j) (G:j < b) (u:b≤A.size):Split D a b pv j.toNat (swp A j.toNat a):=by
 refine ⟨Go.Sort.permIn_trans _ _ _ _ _ h.perm (Go.Sort.swp_permIn A a b _ _ (by omega) (by omega) (Nat.le_refl _) (by omega) u),?_,fun k k1 k2=>?_,fun k k1 k2=>?_⟩
 ·by_cases e:j.toNat=a
  ·rw [e,Go.Sort.swp_right A _ _ (by omega)]; exact h.piv
  ·rw [Go.Sort.swp_left A _ _ (by omega) e]; exact h.piv
 ·by_cases e:k=a
  ·subst e
   rw [Go.Sort.swp_right A _ _ (by omega)]
   exact of_decide_eq_true (h.lo j.toNat (by omega) (by omega))
  ·rw [Go.Sort.swp_other A _ _ k (by omega) e]
   exact of_decide_eq_true (h.lo k (by omega) (by omega))
 ·rw [Go.Sort.swp_other A _ _ k (by omega) (by omega)]
  have:=of_decide_eq_false (h.hi k (by omega) k2)
  omega
theorem Pt.finE (h:Pt (ple pv) D a b pv i j A) (u:j < i) (ha:(a:Int) < i):SplitE D a b pv i.toNat A:=by
 refine ⟨h.perm,fun k k1 k2=>?_,fun k k1 k2=>?_⟩
 ·by_cases e:k=a
  ·subst e; rw [h.piv]; exact Int.le_refl _
  ·exact of_decide_eq_true (h.lo k (by omega) (by omega))
 ·have:=of_decide_eq_false (h.hi k (by omega) k2)
  omega
end
theorem partEq_srt (g n c:Nat) (D:Array Int) (a b p:Nat) (w:World) (hD:D.size=n) (h:Row w g n D.toList) (ha:a < b) (hb:b≤n) (b3:a≤p) (b4:p < b) (hn:n≤1152921504606846976) :
  Calls Tryz.prog 246 #[.slice (some ⟨g,0,none⟩) n c,.int .i64 a,.int .i64 b,.int .i64 p] w fun e w'=>∃ r:Nat,e=.returned (.int .i64 r)∧a < r∧r≤b∧Pq g n (fun A=>SplitE D a b D[p]! r A) w w':=by
 obtain ⟨pv,aL⟩:∃ pv,D[p]! = pv:=⟨_,rfl⟩
 have aO:Hid (Pq g n (fun A=>A=D) w w):=Lh (Pq.start hD rfl h)
 have aE:Hid (n=D.size):=Lh hD.symm
 have aF:=Lh aL
 clear h hD
 rw [aL]
 clear aL
 go_enter Tryz.func246,Tryz.ntmps246
 obtain ⟨d2,ah,a0,a1,ag⟩:=aO.out
 obtain ⟨x2,ai,ax⟩:=a1.get (show a < n by omega)
 obtain ⟨y2,aj,ao⟩:=a1.get (show p < n by omega)
 have aw:=a1.free a (by omega)
 have al:=a1.free p (by omega)
 have s0:(0:Int)≤(a:Int):=by omega
 have s1:(a:Int) < (n:Int):=by omega
 have s2:(0:Int)≤(p:Int):=by omega
 have s3:(p:Int) < (n:Int):=by omega
 have a9:=Lh ai
 have ac:=Lh aj
 have af:=Lh a1
 have a5:=Lh a0
 have a8:=Lh ah
 clear ai aj a1 a0 ah aO
 by_cases hsame:p=a
 ·rw [hsame] at ao al ac
  have b2:x2=y2:=by have h1:=a9.out; have h2:=ac.out; rw [h2] at h1; injection h1 with h1; exact h1.symm
  subst b2
  have aa:Hid (Pt (ple pv) D a b pv ((a:Int)+1) ((b:Int) - 1) (swp d2 a p)):=Lh (Pt.init aF.out (by omega) (by omega) (by rw [← aE.out]; omega) a5.out)
  have b0:=hsame.symm; subst b0
  go_wp2
  go_region
  go_wp2
  have aK:=Lh (Pq.swap (Q:=fun A=>Pt (ple pv) D a b pv ((a:Int)+1) ((b:Int) - 1) A) a8.out ag af.out a9.out a9.out 1 rfl aa.out)
  clear a5 ag af a9 ac a8 ax ao aw al s0 s1 s2 s3 aa aF aE
  go_loopw [9,10] (fun si sj wr=>∃ I J:Int,(a:Int)+1≤I∧I≤b∧(a:Int)≤J∧J < b∧si=.int .i64 I∧sj=.int .i64 J∧Hid (Pq g n (fun A=>Pt (ple pv) D a b pv (I) (J) A) w wr)) (fun si sj _=>(intOf sj - intOf si+2).toNat)
  case atStart=>exact ⟨(a:Int)+1,(b:Int) - 1,by omega,by omega,by omega,by omega,rfl,rfl,aK⟩
  case round=>
   obtain ⟨I,J,aP,aQ,aR,aS,rfl,rfl,aJ⟩:=hrel
   go_wp2
   go_loopw [9] (fun sv wq=>∃ u:Int,I≤u∧u≤(b:Int)∧sv=.int .i64 u∧Hid (Pq g n (fun A=>Pt (ple pv) D a b pv (u) (J) A) w wq)) (fun sv _=>((b:Int) - intOf sv).toNat)
   case atStart=>exact ⟨I,by omega,by omega,rfl,aJ⟩
   case round=>
    obtain ⟨u,aU,aY,rfl,a0⟩:=hrel
    by_cases hij:u≤J
    ·obtain ⟨d1,a4,N,W,a7⟩:=a0.out
     have aM:0≤u:=by omega
     have aN:u < (n:Int):=by omega
     have aG:(0:Int)≤(a:Int):=by omega
     have aH:(a:Int) < (n:Int):=by omega
     obtain ⟨x,hx,an⟩:=W.get (show u.toNat < n by omega)
     obtain ⟨z,hz,aq⟩:=W.get (show a < n by omega)
     have ae:z=pv:=(bang hz).symm.trans N.piv
     have qg:decide (u≤J)=true:=by simpa using hij
     by_cases hxz:z < x
     ·have q5:decide (z < x)=true:=by simpa using hxz
      have a2:Hid (Pq g n (fun A=>Pt (ple pv) D a b pv (u) (J) A∧ple pv A[(u).toNat]! = false) w wr):=Lh (Pq.mk' a4 ⟨N,by rw [bang hx]; exact (show ple pv x=false from decide_eq_false (by omega))⟩ a7 W)
      clear hx hz a4 N W a0 ae
      go_wp2
      go_quiet ((go_at_call 245; first | exact less_quiet _ _ | exact less_quiet2 _ _))
      go_wp2
      have aC:=Lh (a2.out.drewN nq)
      clear a2 an aq q5 qg hxz a7
      generalize wr.drewN nq=wx at aC ⊢
      go_loopw [10] (fun sv wq=>∃ G:Int,(a:Int)≤G∧G≤J∧sv=.int .i64 G∧Hid (Pq g n (fun A=>Pt (ple pv) D a b pv (u) (G) A∧ple pv A[(u).toNat]! = false) w wq)) (fun sv _=>(intOf sv).toNat)
      case atStart=>exact ⟨J,by omega,by omega,rfl,aC⟩
      case round=>
       obtain ⟨G,aV,aW,rfl,ad⟩:=hrel
       by_cases hij:u≤G
       ·obtain ⟨d1,a4,N,W,a7⟩:=ad.out
        have aM:0≤G:=by omega
        have aN:G < (n:Int):=by omega
        have aG:(0:Int)≤(a:Int):=by omega
        have aH:(a:Int) < (n:Int):=by omega
        obtain ⟨x,hx,an⟩:=W.get (show G.toNat < n by omega)
        obtain ⟨z,hz,aq⟩:=W.get (show a < n by omega)
        have ae:z=pv:=(bang hz).symm.trans N.1.piv
        have qg:decide (u≤G)=true:=by simpa using hij
        by_cases hxz:z < x
        ·have q5:decide (z < x)=true:=by simpa using hxz
         have a2:Hid (Pq g n (fun A=>Pt (ple pv) D a b pv (u) (G - 1) A∧ple pv A[(u).toNat]! = false) w wr):=Lh (Pq.mk' a4 ⟨N.1.down (by omega) (bang hx) (show ple pv x=false from decide_eq_false (by omega)),N.2⟩ a7 W)
         clear hx hz a4 N W ad ae
         go_wp2
         go_quiet ((go_at_call 245; first | exact less_quiet _ _ | exact less_quiet2 _ _))
         go_wp2
         go_roundw
         case rel=>exact ⟨G - 1,by omega,by omega,by go_num,a2.out.drewN _⟩
         case measure=>simp [intOf] <;> omega
        ·have q5:decide (z < x)=false:=by simpa using hxz
         have q6:x≤z:=by omega
         have a2:Hid (Pq g n (fun A=>Pt (ple pv) D a b pv (u) (G) A∧ple pv A[(u).toNat]! = false∧ple pv A[(G).toNat]! = true) w wr):=Lh (Pq.mk' a4 ⟨N.1,N.2,by rw [bang hx]; exact (show ple pv x=true from decide_eq_true (by omega))⟩ a7 W)
         clear hx hz a4 N W ad ae
         go_wp2
         go_quiet ((go_at_call 245; first | exact less_quiet _ _ | exact less_quiet2 _ _))
         go_wp2
         have ar:=Lh (a2.out.drewN nq)
         clear a2 an aq q5 q6 qg hxz a7
         generalize wr.drewN nq=wx at ar ⊢
         have aZ:u≤G:=hij
         obtain ⟨d2,ah,a0,a1,ag⟩:=ar.out
         obtain ⟨x2,ai,ax⟩:=a1.get (show u.toNat < n by omega)
         obtain ⟨y2,aj,ao⟩:=a1.get (show G.toNat < n by omega)
         have aw:=a1.free u.toNat (by omega)
         have al:=a1.free G.toNat (by omega)
         have s0:(0:Int)≤u:=by omega
         have s1:u < (n:Int):=by omega
         have s2:(0:Int)≤G:=by omega
         have s3:G < (n:Int):=by omega
         have a9:=Lh ai
         have ac:=Lh aj
         have af:=Lh a1
         have a5:=Lh a0
         have a8:=Lh ah
         clear ai aj a1 a0 ah ar
         have ay:u < G:=by
          have h3:=a5.out.2.1
          have h4:=a5.out.2.2
          rcases Int.lt_or_le u G with h5 | h5
          ·exact h5
          ·exfalso
           rw [show G=u by omega,h3] at h4
           cases h4
         have az:¬ u.toNat=G.toNat:=by omega
         have aa:Hid (Pt (ple pv) D a b pv (u+1) (G - 1) (swp d2 u.toNat G.toNat)):=Lh (a5.out.1.swap (by omega) ay (by omega) (by rw [a8.out]; omega) a5.out.2.1 a5.out.2.2)
         go_wp2
         go_region
         go_wp2
         have aA:=Lh (Pq.swap (Q:=fun A=>Pt (ple pv) D a b pv (u+1) (G - 1) A) a8.out ag af.out a9.out ac.out 1 rfl aa.out)
         clear a5 ag af a9 ac a8 ax ao aw al s0 s1 s2 s3 az ay aa
         go_roundw
         case rel=>first | exact ⟨u+1,G - 1,by omega,by omega,by omega,by omega,by go_num,by go_num,aA.out⟩ | ((repeat apply Exists.intro); exact ⟨⟨u+1,G - 1,by omega,by omega,by omega,by omega,by go_num,by go_num,aA.out⟩,rfl⟩)
         case measure=>simp [intOf] <;> omega
       ·have qg:decide (u≤G)=false:=by simpa using hij
        have a6:Hid (Pq g n (fun A=>Pt (ple pv) D a b pv (u) (G) A) w wr):=Lh (ad.out.imp fun A _ hA=>hA.1)
        clear ad
        go_wp2
        go_quiet (fail)
        go_wp2
        have au:=Lh (a6.out.drewN nq)
        clear a6 qg
        generalize wr.drewN nq=wx at au ⊢
        have aI:G < u:=by omega
        have ak:Hid (Pq g n (fun A=>SplitE D a b pv u.toNat A) w wx):=Lh (au.out.imp fun A _ hA=>hA.finE (by omega) (by omega))
        clear au
        go_wp2
        go_ret
        exact ⟨u.toNat,by rw [show ((u.toNat:Nat):Int)=u by omega]; rfl,by omega,by omega,ak.out⟩
     ·have q5:decide (z < x)=false:=by simpa using hxz
      have q6:x≤z:=by omega
      have a2:Hid (Pq g n (fun A=>Pt (ple pv) D a b pv (u+1) (J) A) w wr):=Lh (Pq.mk' a4 (N.up (by omega) (bang hx) (show ple pv x=true from decide_eq_true (by omega))) a7 W)
      clear hx hz a4 N W a0 ae
      go_wp2
      go_quiet ((go_at_call 245; first | exact less_quiet _ _ | exact less_quiet2 _ _))
      go_wp2
      go_roundw
      case rel=>exact ⟨u+1,by omega,by omega,by go_num,a2.out.drewN _⟩
      case measure=>simp [intOf] <;> omega
    ·have qg:decide (u≤J)=false:=by simpa using hij
     have a6:Hid (Pq g n (fun A=>Pt (ple pv) D a b pv (u) (J) A) w wr):=a0
     clear a0
     go_wp2
     go_quiet (fail)
     go_wp2
     have aD:=Lh (a6.out.drewN nq)
     clear a6 qg
     generalize wr.drewN nq=wx at aD ⊢
     go_loopw [10] (fun sv wq=>∃ a3:Int,(a:Int)≤a3∧a3≤J∧sv=.int .i64 a3∧Hid (Pq g n (fun A=>Pt (ple pv) D a b pv (u) (a3) A) w wq)) (fun sv _=>(intOf sv).toNat)
     case atStart=>exact ⟨J,by omega,by omega,rfl,aD⟩
     case round=>
      obtain ⟨a3,aT,aX,rfl,aB⟩:=hrel
      by_cases hij:u≤a3
      ·exfalso; omega
      ·have qg:decide (u≤a3)=false:=by simpa using hij
       have a6:Hid (Pq g n (fun A=>Pt (ple pv) D a b pv (u) (a3) A) w wr):=aB
       clear aB
       go_wp2
       go_quiet (fail)
       go_wp2
       have av:=Lh (a6.out.drewN nq)
       clear a6 qg
       generalize wr.drewN nq=wx at av ⊢
       have aI:a3 < u:=by omega
       have ak:Hid (Pq g n (fun A=>SplitE D a b pv u.toNat A) w wx):=Lh (av.out.imp fun A _ hA=>hA.finE (by omega) (by omega))
       clear av
       go_wp2
       go_ret
       exact ⟨u.toNat,by rw [show ((u.toNat:Nat):Int)=u by omega]; rfl,by omega,by omega,ak.out⟩
 ·have az:¬ a=p:=fun e=>hsame e.symm
  have aa:Hid (Pt (ple pv) D a b pv ((a:Int)+1) ((b:Int) - 1) (swp d2 a p)):=Lh (Pt.init aF.out (by omega) (by omega) (by rw [← aE.out]; omega) a5.out)
  go_wp2
  go_region
  go_wp2
  have aK:=Lh (Pq.swap (Q:=fun A=>Pt (ple pv) D a b pv ((a:Int)+1) ((b:Int) - 1) A) a8.out ag af.out a9.out ac.out 1 rfl aa.out)
  clear a5 ag af a9 ac a8 ax ao aw al s0 s1 s2 s3 hsame az aa aF aE
  go_loopw [9,10] (fun si sj wr=>∃ I J:Int,(a:Int)+1≤I∧I≤b∧(a:Int)≤J∧J < b∧si=.int .i64 I∧sj=.int .i64 J∧Hid (Pq g n (fun A=>Pt (ple pv) D a b pv (I) (J) A) w wr)) (fun si sj _=>(intOf sj - intOf si+2).toNat)
  case atStart=>exact ⟨(a:Int)+1,(b:Int) - 1,by omega,by omega,by omega,by omega,rfl,rfl,aK⟩
  case round=>
   obtain ⟨I,J,aP,aQ,aR,aS,rfl,rfl,aJ⟩:=hrel
   go_wp2
   go_loopw [9] (fun sv wq=>∃ u:Int,I≤u∧u≤(b:Int)∧sv=.int .i64 u∧Hid (Pq g n (fun A=>Pt (ple pv) D a b pv (u) (J) A) w wq)) (fun sv _=>((b:Int) - intOf sv).toNat)
   case atStart=>exact ⟨I,by omega,by omega,rfl,aJ⟩
   case round=>
    obtain ⟨u,aU,aY,rfl,a0⟩:=hrel
    by_cases hij:u≤J
    ·obtain ⟨d1,a4,N,W,a7⟩:=a0.out
     have aM:0≤u:=by omega
     have aN:u < (n:Int):=by omega
     have aG:(0:Int)≤(a:Int):=by omega
     have aH:(a:Int) < (n:Int):=by omega
     obtain ⟨x,hx,an⟩:=W.get (show u.toNat < n by omega)
     obtain ⟨z,hz,aq⟩:=W.get (show a < n by omega)
     have ae:z=pv:=(bang hz).symm.trans N.piv
     have qg:decide (u≤J)=true:=by simpa using hij
     by_cases hxz:z < x
     ·have q5:decide (z < x)=true:=by simpa using hxz
      have a2:Hid (Pq g n (fun A=>Pt (ple pv) D a b pv (u) (J) A∧ple pv A[(u).toNat]! = false) w wr):=Lh (Pq.mk' a4 ⟨N,by rw [bang hx]; exact (show ple pv x=false from decide_eq_false (by omega))⟩ a7 W)
      clear hx hz a4 N W a0 ae
      go_wp2
      go_quiet ((go_at_call 245; first | exact less_quiet _ _ | exact less_quiet2 _ _))
      go_wp2
      have aC:=Lh (a2.out.drewN nq)
      clear a2 an aq q5 qg hxz a7
      generalize wr.drewN nq=wx at aC ⊢
      go_loopw [10] (fun sv wq=>∃ G:Int,(a:Int)≤G∧G≤J∧sv=.int .i64 G∧Hid (Pq g n (fun A=>Pt (ple pv) D a b pv (u) (G) A∧ple pv A[(u).toNat]! = false) w wq)) (fun sv _=>(intOf sv).toNat)
      case atStart=>exact ⟨J,by omega,by omega,rfl,aC⟩
      case round=>
       obtain ⟨G,aV,aW,rfl,ad⟩:=hrel
       by_cases hij:u≤G
       ·obtain ⟨d1,a4,N,W,a7⟩:=ad.out
        have aM:0≤G:=by omega
        have aN:G < (n:Int):=by omega
        have aG:(0:Int)≤(a:Int):=by omega
        have aH:(a:Int) < (n:Int):=by omega
        obtain ⟨x,hx,an⟩:=W.get (show G.toNat < n by omega)
        obtain ⟨z,hz,aq⟩:=W.get (show a < n by omega)
        have ae:z=pv:=(bang hz).symm.trans N.1.piv
        have qg:decide (u≤G)=true:=by simpa using hij
        by_cases hxz:z < x
        ·have q5:decide (z < x)=true:=by simpa using hxz
         have a2:Hid (Pq g n (fun A=>Pt (ple pv) D a b pv (u) (G - 1) A∧ple pv A[(u).toNat]! = false) w wr):=Lh (Pq.mk' a4 ⟨N.1.down (by omega) (bang hx) (show ple pv x=false from decide_eq_false (by omega)),N.2⟩ a7 W)
         clear hx hz a4 N W ad ae
         go_wp2
         go_quiet ((go_at_call 245; first | exact less_quiet _ _ | exact less_quiet2 _ _))
         go_wp2
         go_roundw
         case rel=>exact ⟨G - 1,by omega,by omega,by go_num,a2.out.drewN _⟩
         case measure=>simp [intOf] <;> omega
        ·have q5:decide (z < x)=false:=by simpa using hxz
         have q6:x≤z:=by omega
         have a2:Hid (Pq g n (fun A=>Pt (ple pv) D a b pv (u) (G) A∧ple pv A[(u).toNat]! = false∧ple pv A[(G).toNat]! = true) w wr):=Lh (Pq.mk' a4 ⟨N.1,N.2,by rw [bang hx]; exact (show ple pv x=true from decide_eq_true (by omega))⟩ a7 W)
         clear hx hz a4 N W ad ae
         go_wp2
         go_quiet ((go_at_call 245; first | exact less_quiet _ _ | exact less_quiet2 _ _))
         go_wp2
         have ar:=Lh (a2.out.drewN nq)
         clear a2 an aq q5 q6 qg hxz a7
         generalize wr.drewN nq=wx at ar ⊢
         have aZ:u≤G:=hij
         obtain ⟨d2,ah,a0,a1,ag⟩:=ar.out
         obtain ⟨x2,ai,ax⟩:=a1.get (show u.toNat < n by omega)
         obtain ⟨y2,aj,ao⟩:=a1.get (show G.toNat < n by omega)
         have aw:=a1.free u.toNat (by omega)
         have al:=a1.free G.toNat (by omega)
         have s0:(0:Int)≤u:=by omega
         have s1:u < (n:Int):=by omega
         have s2:(0:Int)≤G:=by omega
         have s3:G < (n:Int):=by omega
         have a9:=Lh ai
         have ac:=Lh aj
         have af:=Lh a1
         have a5:=Lh a0
         have a8:=Lh ah
         clear ai aj a1 a0 ah ar
         have ay:u < G:=by
          have h3:=a5.out.2.1
          have h4:=a5.out.2.2
          rcases Int.lt_or_le u G with h5 | h5
          ·exact h5
          ·exfalso
           rw [show G=u by omega,h3] at h4
           cases h4
         have az:¬ u.toNat=G.toNat:=by omega
         have aa:Hid (Pt (ple pv) D a b pv (u+1) (G - 1) (swp d2 u.toNat G.toNat)):=Lh (a5.out.1.swap (by omega) ay (by omega) (by rw [a8.out]; omega) a5.out.2.1 a5.out.2.2)
         go_wp2
         go_region
         go_wp2
         have aA:=Lh (Pq.swap (Q:=fun A=>Pt (ple pv) D a b pv (u+1) (G - 1) A) a8.out ag af.out a9.out ac.out 1 rfl aa.out)
         clear a5 ag af a9 ac a8 ax ao aw al s0 s1 s2 s3 az ay aa
         go_roundw
         case rel=>first | exact ⟨u+1,G - 1,by omega,by omega,by omega,by omega,by go_num,by go_num,aA.out⟩ | ((repeat apply Exists.intro); exact ⟨⟨u+1,G - 1,by omega,by omega,by omega,by omega,by go_num,by go_num,aA.out⟩,rfl⟩)
         case measure=>simp [intOf] <;> omega
       ·have qg:decide (u≤G)=false:=by simpa using hij
        have a6:Hid (Pq g n (fun A=>Pt (ple pv) D a b pv (u) (G) A) w wr):=Lh (ad.out.imp fun A _ hA=>hA.1)
        clear ad
        go_wp2
        go_quiet (fail)
        go_wp2
        have au:=Lh (a6.out.drewN nq)
        clear a6 qg
        generalize wr.drewN nq=wx at au ⊢
        have aI:G < u:=by omega
        have ak:Hid (Pq g n (fun A=>SplitE D a b pv u.toNat A) w wx):=Lh (au.out.imp fun A _ hA=>hA.finE (by omega) (by omega))
        clear au
        go_wp2
        go_ret
        exact ⟨u.toNat,by rw [show ((u.toNat:Nat):Int)=u by omega]; rfl,by omega,by omega,ak.out⟩
     ·have q5:decide (z < x)=false:=by simpa using hxz
      have q6:x≤z:=by omega
      have a2:Hid (Pq g n (fun A=>Pt (ple pv) D a b pv (u+1) (J) A) w wr):=Lh (Pq.mk' a4 (N.up (by omega) (bang hx) (show ple pv x=true from decide_eq_true (by omega))) a7 W)
      clear hx hz a4 N W a0 ae
      go_wp2
      go_quiet ((go_at_call 245; first | exact less_quiet _ _ | exact less_quiet2 _ _))
      go_wp2
      go_roundw
      case rel=>exact ⟨u+1,by omega,by omega,by go_num,a2.out.drewN _⟩
      case measure=>simp [intOf] <;> omega
    ·have qg:decide (u≤J)=false:=by simpa using hij
     have a6:Hid (Pq g n (fun A=>Pt (ple pv) D a b pv (u) (J) A) w wr):=a0
     clear a0
     go_wp2
     go_quiet (fail)
     go_wp2
     have aD:=Lh (a6.out.drewN nq)
     clear a6 qg
     generalize wr.drewN nq=wx at aD ⊢
     go_loopw [10] (fun sv wq=>∃ a3:Int,(a:Int)≤a3∧a3≤J∧sv=.int .i64 a3∧Hid (Pq g n (fun A=>Pt (ple pv) D a b pv (u) (a3) A) w wq)) (fun sv _=>(intOf sv).toNat)
     case atStart=>exact ⟨J,by omega,by omega,rfl,aD⟩
     case round=>
      obtain ⟨a3,aT,aX,rfl,aB⟩:=hrel
      by_cases hij:u≤a3
      ·exfalso; omega
      ·have qg:decide (u≤a3)=false:=by simpa using hij
       have a6:Hid (Pq g n (fun A=>Pt (ple pv) D a b pv (u) (a3) A) w wr):=aB
       clear aB
       go_wp2
       go_quiet (fail)
       go_wp2
       have av:=Lh (a6.out.drewN nq)
       clear a6 qg
       generalize wr.drewN nq=wx at av ⊢
       have aI:a3 < u:=by omega
       have ak:Hid (Pq g n (fun A=>SplitE D a b pv u.toNat A) w wx):=Lh (av.out.imp fun A _ hA=>hA.finE (by omega) (by omega))
       clear av
       go_wp2
       go_ret
       exact ⟨u.toNat,by rw [show ((u.toNat:Nat):Int)=u by omega]; rfl,by omega,by omega,ak.out⟩
theorem part_srt (g n c:Nat) (D:Array Int) (a b p:Nat) (w:World) (hD:D.size=n) (h:Row w g n D.toList) (ha:a < b) (hb:b≤n) (cu:a≤p) (cv:p < b) (hn:n≤1152921504606846976) :
  Calls Tryz.prog 247 #[.slice (some ⟨g,0,none⟩) n c,.int .i64 a,.int .i64 b,.int .i64 p] w fun e w'=>∃ (r:Nat) (t:Bool),e=.returned (.tuple #[.int .i64 r,.bool t])∧a≤r∧r < b∧Pq g n (fun A=>Split D a b D[p]! r A) w w':=by
 obtain ⟨pv,bi⟩:∃ pv,D[p]! = pv:=⟨_,rfl⟩
 have bD:Hid (Pq g n (fun A=>A=D) w w):=Lh (Pq.start hD rfl h)
 have aS:Hid (n=D.size):=Lh hD.symm
 have aT:=Lh bi
 clear h hD
 rw [bi]
 clear bi
 go_enter Tryz.func247,Tryz.ntmps247
 obtain ⟨d2,ai,ah,u,a4⟩:=bD.out
 obtain ⟨x2,aj,ae⟩:=u.get (show a < n by omega)
 obtain ⟨y2,ak,ao⟩:=u.get (show p < n by omega)
 have ad:=u.free a (by omega)
 have an:=u.free p (by omega)
 have s0:(0:Int)≤(a:Int):=by omega
 have s1:(a:Int) < (n:Int):=by omega
 have s2:(0:Int)≤(p:Int):=by omega
 have s3:(p:Int) < (n:Int):=by omega
 have G:=Lh aj
 have a2:=Lh ak
 have a3:=Lh u
 have a0:=Lh ah
 have N:=Lh ai
 clear aj ak u ah ai bD
 by_cases hsame:p=a
 ·rw [hsame] at ao an a2
  have az:x2=y2:=by have h1:=G.out; have h2:=a2.out; rw [h2] at h1; injection h1 with h1; exact h1.symm
  subst az
  have W:Hid (Pt (plt pv) D a b pv ((a:Int)+1) ((b:Int) - 1) (swp d2 a p)):=Lh (Pt.init aT.out (by omega) (by omega) (by rw [← aS.out]; omega) a0.out)
  have bM:=hsame.symm; subst bM
  go_wp2
  go_region
  go_wp2
  have a1:=Lh (Pq.swap (Q:=fun A=>Pt (plt pv) D a b pv ((a:Int)+1) ((b:Int) - 1) A) N.out a4 a3.out G.out G.out 1 rfl W.out)
  clear a0 a4 a3 G a2 N ae ao ad an s0 s1 s2 s3 W aT aS
  obtain ⟨I0,aD⟩:∃ I0:Int,I0=(a:Int)+1:=⟨_,rfl⟩
  obtain ⟨J0,aE⟩:∃ J0:Int,J0=(b:Int) - 1:=⟨_,rfl⟩
  rw [← aD,← aE] at a1
  rw [← aD,← aE]
  have k1:(a:Int)+1≤I0:=by omega
  have k2:I0≤b:=by omega
  have k3:(a:Int)≤J0:=by omega
  have k4:J0 < b:=by omega
  clear aD aE
  go_loopw [10] (fun sv wq=>∃ I2:Int,I0≤I2∧I2≤(b:Int)∧sv=.int .i64 I2∧Hid (Pq g n (fun A=>Pt (plt pv) D a b pv (I2) (J0) A) w wq)) (fun sv _=>((b:Int) - intOf sv).toNat)
  case atStart=>exact ⟨I0,by omega,by omega,rfl,a1⟩
  case round=>
   obtain ⟨I2,bS,cm,rfl,aM⟩:=hrel
   by_cases hij:I2≤J0
   ·obtain ⟨d1,ag,a1,a5,aq⟩:=aM.out
    have aI:0≤I2:=by omega
    have aJ:I2 < (n:Int):=by omega
    have aF:(0:Int)≤(a:Int):=by omega
    have aG:(a:Int) < (n:Int):=by omega
    obtain ⟨x,hx,aA⟩:=a5.get (show I2.toNat < n by omega)
    obtain ⟨z,hz,aB⟩:=a5.get (show a < n by omega)
    have ay:z=pv:=(bang hz).symm.trans a1.piv
    have qg:decide (I2≤J0)=true:=by simpa using hij
    by_cases hxz:x < z
    ·have q5:decide (x < z)=true:=by simpa using hxz
     have af:Hid (Pq g n (fun A=>Pt (plt pv) D a b pv (I2+1) (J0) A) w wr):=Lh (Pq.mk' ag (a1.up (by omega) (bang hx) (show plt pv x=true from decide_eq_true (by omega))) aq a5)
     clear hx hz ag a1 a5 aM ay
     go_wp2
     go_quiet ((go_at_call 245; first | exact less_quiet _ _ | exact less_quiet2 _ _))
     go_wp2
     go_roundw
     case rel=>exact ⟨I2+1,by omega,by omega,by go_num,af.out.drewN _⟩
     case measure=>simp [intOf] <;> omega
    ·have q5:decide (x < z)=false:=by simpa using hxz
     have q6:z≤x:=by omega
     have af:Hid (Pq g n (fun A=>Pt (plt pv) D a b pv (I2) (J0) A∧plt pv A[(I2).toNat]! = false) w wr):=Lh (Pq.mk' ag ⟨a1,by rw [bang hx]; exact (show plt pv x=false from decide_eq_false (by omega))⟩ aq a5)
     clear hx hz ag a1 a5 aM ay
     go_wp2
     go_quiet ((go_at_call 245; first | exact less_quiet _ _ | exact less_quiet2 _ _))
     go_wp2
     have bt:=Lh (af.out.drewN nq)
     clear af aA aB q5 q6 qg hxz aq
     generalize wr.drewN nq=wx at bt ⊢
     go_loopw [11] (fun sv wq=>∃ J8:Int,(a:Int)≤J8∧J8≤J0∧sv=.int .i64 J8∧Hid (Pq g n (fun A=>Pt (plt pv) D a b pv (I2) (J8) A∧plt pv A[(I2).toNat]! = false) w wq)) (fun sv _=>(intOf sv).toNat)
     case atStart=>exact ⟨J0,by omega,by omega,rfl,bt⟩
     case round=>
      obtain ⟨J8,bN,ce,rfl,aR⟩:=hrel
      by_cases hij:I2≤J8
      ·obtain ⟨d1,ag,a1,a5,aq⟩:=aR.out
       have aI:0≤J8:=by omega
       have aJ:J8 < (n:Int):=by omega
       have aF:(0:Int)≤(a:Int):=by omega
       have aG:(a:Int) < (n:Int):=by omega
       obtain ⟨x,hx,aA⟩:=a5.get (show J8.toNat < n by omega)
       obtain ⟨z,hz,aB⟩:=a5.get (show a < n by omega)
       have ay:z=pv:=(bang hz).symm.trans a1.1.piv
       have qg:decide (I2≤J8)=true:=by simpa using hij
       by_cases hxz:x < z
       ·have q5:decide (x < z)=true:=by simpa using hxz
        have af:Hid (Pq g n (fun A=>Pt (plt pv) D a b pv (I2) (J8) A∧plt pv A[(I2).toNat]! = false∧plt pv A[(J8).toNat]! = true) w wr):=Lh (Pq.mk' ag ⟨a1.1,a1.2,by rw [bang hx]; exact (show plt pv x=true from decide_eq_true (by omega))⟩ aq a5)
        clear hx hz ag a1 a5 aR ay
        go_wp2
        go_quiet ((go_at_call 245; first | exact less_quiet _ _ | exact less_quiet2 _ _))
        go_wp2
        have b0:=Lh (af.out.drewN nq)
        clear af aA aB q5 qg hxz aq
        generalize wr.drewN nq=wx at b0 ⊢
        have aU:I2≤J8:=hij
        obtain ⟨d2,ai,ah,u,a4⟩:=b0.out
        obtain ⟨x2,aj,ae⟩:=u.get (show I2.toNat < n by omega)
        obtain ⟨y2,ak,ao⟩:=u.get (show J8.toNat < n by omega)
        have ad:=u.free I2.toNat (by omega)
        have an:=u.free J8.toNat (by omega)
        have s0:(0:Int)≤I2:=by omega
        have s1:I2 < (n:Int):=by omega
        have s2:(0:Int)≤J8:=by omega
        have s3:J8 < (n:Int):=by omega
        have G:=Lh aj
        have a2:=Lh ak
        have a3:=Lh u
        have a0:=Lh ah
        have N:=Lh ai
        clear aj ak u ah ai b0
        have aC:I2 < J8:=by
         have h3:=a0.out.2.1
         have h4:=a0.out.2.2
         rcases Int.lt_or_le I2 J8 with h5 | h5
         ·exact h5
         ·exfalso
          rw [show J8=I2 by omega,h3] at h4
          cases h4
        have ax:¬ I2.toNat=J8.toNat:=by omega
        have W:Hid (Pt (plt pv) D a b pv (I2+1) (J8 - 1) (swp d2 I2.toNat J8.toNat)):=Lh (a0.out.1.swap (by omega) aC (by omega) (by rw [N.out]; omega) a0.out.2.1 a0.out.2.2)
        go_wp2
        go_region
        go_wp2
        have bI:=Lh (Pq.swap (Q:=fun A=>Pt (plt pv) D a b pv (I2+1) (J8 - 1) A) N.out a4 a3.out G.out a2.out 1 rfl W.out)
        clear a0 a4 a3 G a2 N ae ao ad an s0 s1 s2 s3 ax aC W
        go_loopw [10,11] (fun si sj wr=>∃ I J:Int,(a:Int)+1≤I∧I≤b∧(a:Int)≤J∧J < b∧si=.int .i64 I∧sj=.int .i64 J∧Hid (Pq g n (fun A=>Pt (plt pv) D a b pv (I) (J) A) w wr)) (fun si sj _=>(intOf sj - intOf si+2).toNat)
        case atStart=>exact ⟨I2+1,J8 - 1,by omega,by omega,by omega,by omega,rfl,rfl,bI⟩
        case round=>
         obtain ⟨I,J,aD,bG,aE,bH,rfl,rfl,aV⟩:=hrel
         go_wp2
         go_loopw [10] (fun sv wq=>∃ a9:Int,I≤a9∧a9≤(b:Int)∧sv=.int .i64 a9∧Hid (Pq g n (fun A=>Pt (plt pv) D a b pv (a9) (J) A) w wq)) (fun sv _=>((b:Int) - intOf sv).toNat)
         case atStart=>exact ⟨I,by omega,by omega,rfl,aV⟩
         case round=>
          obtain ⟨a9,bP,cg,rfl,aK⟩:=hrel
          by_cases hij:a9≤J
          ·obtain ⟨d1,ag,a1,a5,aq⟩:=aK.out
           have aI:0≤a9:=by omega
           have aJ:a9 < (n:Int):=by omega
           have aF:(0:Int)≤(a:Int):=by omega
           have aG:(a:Int) < (n:Int):=by omega
           obtain ⟨x,hx,aA⟩:=a5.get (show a9.toNat < n by omega)
           obtain ⟨z,hz,aB⟩:=a5.get (show a < n by omega)
           have ay:z=pv:=(bang hz).symm.trans a1.piv
           have qg:decide (a9≤J)=true:=by simpa using hij
           by_cases hxz:x < z
           ·have q5:decide (x < z)=true:=by simpa using hxz
            have af:Hid (Pq g n (fun A=>Pt (plt pv) D a b pv (a9+1) (J) A) w wr):=Lh (Pq.mk' ag (a1.up (by omega) (bang hx) (show plt pv x=true from decide_eq_true (by omega))) aq a5)
            clear hx hz ag a1 a5 aK ay
            go_wp2
            go_quiet ((go_at_call 245; first | exact less_quiet _ _ | exact less_quiet2 _ _))
            go_wp2
            go_roundw
            case rel=>exact ⟨a9+1,by omega,by omega,by go_num,af.out.drewN _⟩
            case measure=>simp [intOf] <;> omega
           ·have q5:decide (x < z)=false:=by simpa using hxz
            have q6:z≤x:=by omega
            have af:Hid (Pq g n (fun A=>Pt (plt pv) D a b pv (a9) (J) A∧plt pv A[(a9).toNat]! = false) w wr):=Lh (Pq.mk' ag ⟨a1,by rw [bang hx]; exact (show plt pv x=false from decide_eq_false (by omega))⟩ aq a5)
            clear hx hz ag a1 a5 aK ay
            go_wp2
            go_quiet ((go_at_call 245; first | exact less_quiet _ _ | exact less_quiet2 _ _))
            go_wp2
            have bn:=Lh (af.out.drewN nq)
            clear af aA aB q5 q6 qg hxz aq
            generalize wr.drewN nq=wx at bn ⊢
            go_loopw [11] (fun sv wq=>∃ a6:Int,(a:Int)≤a6∧a6≤J∧sv=.int .i64 a6∧Hid (Pq g n (fun A=>Pt (plt pv) D a b pv (a9) (a6) A∧plt pv A[(a9).toNat]! = false) w wq)) (fun sv _=>(intOf sv).toNat)
            case atStart=>exact ⟨J,by omega,by omega,rfl,bn⟩
            case round=>
             obtain ⟨a6,bQ,ch,rfl,aL⟩:=hrel
             by_cases hij:a9≤a6
             ·obtain ⟨d1,ag,a1,a5,aq⟩:=aL.out
              have aI:0≤a6:=by omega
              have aJ:a6 < (n:Int):=by omega
              have aF:(0:Int)≤(a:Int):=by omega
              have aG:(a:Int) < (n:Int):=by omega
              obtain ⟨x,hx,aA⟩:=a5.get (show a6.toNat < n by omega)
              obtain ⟨z,hz,aB⟩:=a5.get (show a < n by omega)
              have ay:z=pv:=(bang hz).symm.trans a1.1.piv
              have qg:decide (a9≤a6)=true:=by simpa using hij
              by_cases hxz:x < z
              ·have q5:decide (x < z)=true:=by simpa using hxz
               have af:Hid (Pq g n (fun A=>Pt (plt pv) D a b pv (a9) (a6) A∧plt pv A[(a9).toNat]! = false∧plt pv A[(a6).toNat]! = true) w wr):=Lh (Pq.mk' ag ⟨a1.1,a1.2,by rw [bang hx]; exact (show plt pv x=true from decide_eq_true (by omega))⟩ aq a5)
               clear hx hz ag a1 a5 aL ay
               go_wp2
               go_quiet ((go_at_call 245; first | exact less_quiet _ _ | exact less_quiet2 _ _))
               go_wp2
               have b4:=Lh (af.out.drewN nq)
               clear af aA aB q5 qg hxz aq
               generalize wr.drewN nq=wx at b4 ⊢
               have aU:a9≤a6:=hij
               obtain ⟨d2,ai,ah,u,a4⟩:=b4.out
               obtain ⟨x2,aj,ae⟩:=u.get (show a9.toNat < n by omega)
               obtain ⟨y2,ak,ao⟩:=u.get (show a6.toNat < n by omega)
               have ad:=u.free a9.toNat (by omega)
               have an:=u.free a6.toNat (by omega)
               have s0:(0:Int)≤a9:=by omega
               have s1:a9 < (n:Int):=by omega
               have s2:(0:Int)≤a6:=by omega
               have s3:a6 < (n:Int):=by omega
               have G:=Lh aj
               have a2:=Lh ak
               have a3:=Lh u
               have a0:=Lh ah
               have N:=Lh ai
               clear aj ak u ah ai b4
               have aC:a9 < a6:=by
                have h3:=a0.out.2.1
                have h4:=a0.out.2.2
                rcases Int.lt_or_le a9 a6 with h5 | h5
                ·exact h5
                ·exfalso
                 rw [show a6=a9 by omega,h3] at h4
                 cases h4
               have ax:¬ a9.toNat=a6.toNat:=by omega
               have W:Hid (Pt (plt pv) D a b pv (a9+1) (a6 - 1) (swp d2 a9.toNat a6.toNat)):=Lh (a0.out.1.swap (by omega) aC (by omega) (by rw [N.out]; omega) a0.out.2.1 a0.out.2.2)
               go_wp2
               go_region
               go_wp2
               have bp:=Lh (Pq.swap (Q:=fun A=>Pt (plt pv) D a b pv (a9+1) (a6 - 1) A) N.out a4 a3.out G.out a2.out 1 rfl W.out)
               clear a0 a4 a3 G a2 N ae ao ad an s0 s1 s2 s3 ax aC W
               go_roundw
               case rel=>first | exact ⟨a9+1,a6 - 1,by omega,by omega,by omega,by omega,by go_num,by go_num,bp.out⟩ | ((repeat apply Exists.intro); exact ⟨⟨a9+1,a6 - 1,by omega,by omega,by omega,by omega,by go_num,by go_num,bp.out⟩,rfl⟩)
               case measure=>simp [intOf] <;> omega
              ·have q5:decide (x < z)=false:=by simpa using hxz
               have q6:z≤x:=by omega
               have af:Hid (Pq g n (fun A=>Pt (plt pv) D a b pv (a9) (a6 - 1) A∧plt pv A[(a9).toNat]! = false) w wr):=Lh (Pq.mk' ag ⟨a1.1.down (by omega) (bang hx) (show plt pv x=false from decide_eq_false (by omega)),a1.2⟩ aq a5)
               clear hx hz ag a1 a5 aL ay
               go_wp2
               go_quiet ((go_at_call 245; first | exact less_quiet _ _ | exact less_quiet2 _ _))
               go_wp2
               go_roundw
               case rel=>exact ⟨a6 - 1,by omega,by omega,by go_num,af.out.drewN _⟩
               case measure=>simp [intOf] <;> omega
             ·have qg:decide (a9≤a6)=false:=by simpa using hij
              have al:Hid (Pq g n (fun A=>Pt (plt pv) D a b pv (a9) (a6) A) w wr):=Lh (aL.out.imp fun A _ hA=>hA.1)
              clear aL
              go_wp2
              go_quiet (fail)
              go_wp2
              have b5:=Lh (al.out.drewN nq)
              clear al qg
              generalize wr.drewN nq=wx at b5 ⊢
              have aH:a6 < a9:=by omega
              obtain ⟨d2,ai,ah,u,a4⟩:=b5.out
              obtain ⟨x2,aj,ae⟩:=u.get (show a6.toNat < n by omega)
              obtain ⟨y2,ak,ao⟩:=u.get (show a < n by omega)
              have ad:=u.free a6.toNat (by omega)
              have an:=u.free a (by omega)
              have s0:(0:Int)≤a6:=by omega
              have s1:a6 < (n:Int):=by omega
              have s2:(0:Int)≤(a:Int):=by omega
              have s3:(a:Int) < (n:Int):=by omega
              have G:=Lh aj
              have a2:=Lh ak
              have a3:=Lh u
              have a0:=Lh ah
              have N:=Lh ai
              clear aj ak u ah ai b5
              by_cases hsame:a6.toNat=a
              ·rw [hsame] at ae ad G
               have az:x2=y2:=by have h1:=G.out; have h2:=a2.out; rw [h2] at h1; injection h1 with h1; exact h1.symm
               subst az
               have W:Hid (Split D a b pv a6.toNat (swp d2 a6.toNat a)):=Lh (a0.out.fin (by omega) (by omega) (by omega) (by rw [N.out]; omega))
               rw [show swp d2 a6.toNat a=swp d2 a a by rw [hsame]] at W
               go_wp2
               go_region
               go_wp2
               have b6:=Lh (Pq.swap (Q:=fun A=>Split D a b pv a6.toNat A) N.out a4 a3.out G.out G.out 1 rfl W.out)
               clear a0 a4 a3 G a2 N ae ao ad an s0 s1 s2 s3 hsame W
               go_ret2
               exact ⟨a6.toNat,false,by rw [show ((a6.toNat:Nat):Int)=a6 by omega]; rfl,by omega,by omega,b6.out⟩
              ·have ax:¬ a=a6.toNat:=fun e=>hsame e.symm
               have W:Hid (Split D a b pv a6.toNat (swp d2 a6.toNat a)):=Lh (a0.out.fin (by omega) (by omega) (by omega) (by rw [N.out]; omega))
               go_wp2
               go_region
               go_wp2
               have b6:=Lh (Pq.swap (Q:=fun A=>Split D a b pv a6.toNat A) N.out a4 a3.out G.out a2.out 1 rfl W.out)
               clear a0 a4 a3 G a2 N ae ao ad an s0 s1 s2 s3 hsame ax W
               go_ret2
               exact ⟨a6.toNat,false,by rw [show ((a6.toNat:Nat):Int)=a6 by omega]; rfl,by omega,by omega,b6.out⟩
          ·have qg:decide (a9≤J)=false:=by simpa using hij
           have al:Hid (Pq g n (fun A=>Pt (plt pv) D a b pv (a9) (J) A) w wr):=aK
           clear aK
           go_wp2
           go_quiet (fail)
           go_wp2
           have bo:=Lh (al.out.drewN nq)
           clear al qg
           generalize wr.drewN nq=wx at bo ⊢
           go_loopw [11] (fun sv wq=>∃ au:Int,(a:Int)≤au∧au≤J∧sv=.int .i64 au∧Hid (Pq g n (fun A=>Pt (plt pv) D a b pv (a9) (au) A) w wq)) (fun sv _=>(intOf sv).toNat)
           case atStart=>exact ⟨J,by omega,by omega,rfl,bo⟩
           case round=>
            obtain ⟨au,bR,ci,rfl,bq⟩:=hrel
            by_cases hij:a9≤au
            ·exfalso; omega
            ·have qg:decide (a9≤au)=false:=by simpa using hij
             have al:Hid (Pq g n (fun A=>Pt (plt pv) D a b pv (a9) (au) A) w wr):=bq
             clear bq
             go_wp2
             go_quiet (fail)
             go_wp2
             have b7:=Lh (al.out.drewN nq)
             clear al qg
             generalize wr.drewN nq=wx at b7 ⊢
             have aH:au < a9:=by omega
             obtain ⟨d2,ai,ah,u,a4⟩:=b7.out
             obtain ⟨x2,aj,ae⟩:=u.get (show au.toNat < n by omega)
             obtain ⟨y2,ak,ao⟩:=u.get (show a < n by omega)
             have ad:=u.free au.toNat (by omega)
             have an:=u.free a (by omega)
             have s0:(0:Int)≤au:=by omega
             have s1:au < (n:Int):=by omega
             have s2:(0:Int)≤(a:Int):=by omega
             have s3:(a:Int) < (n:Int):=by omega
             have G:=Lh aj
             have a2:=Lh ak
             have a3:=Lh u
             have a0:=Lh ah
             have N:=Lh ai
             clear aj ak u ah ai b7
             by_cases hsame:au.toNat=a
             ·rw [hsame] at ae ad G
              have az:x2=y2:=by have h1:=G.out; have h2:=a2.out; rw [h2] at h1; injection h1 with h1; exact h1.symm
              subst az
              have W:Hid (Split D a b pv au.toNat (swp d2 au.toNat a)):=Lh (a0.out.fin (by omega) (by omega) (by omega) (by rw [N.out]; omega))
              rw [show swp d2 au.toNat a=swp d2 a a by rw [hsame]] at W
              go_wp2
              go_region
              go_wp2
              have b8:=Lh (Pq.swap (Q:=fun A=>Split D a b pv au.toNat A) N.out a4 a3.out G.out G.out 1 rfl W.out)
              clear a0 a4 a3 G a2 N ae ao ad an s0 s1 s2 s3 hsame W
              go_ret2
              exact ⟨au.toNat,false,by rw [show ((au.toNat:Nat):Int)=au by omega]; rfl,by omega,by omega,b8.out⟩
             ·have ax:¬ a=au.toNat:=fun e=>hsame e.symm
              have W:Hid (Split D a b pv au.toNat (swp d2 au.toNat a)):=Lh (a0.out.fin (by omega) (by omega) (by omega) (by rw [N.out]; omega))
              go_wp2
              go_region
              go_wp2
              have b8:=Lh (Pq.swap (Q:=fun A=>Split D a b pv au.toNat A) N.out a4 a3.out G.out a2.out 1 rfl W.out)
              clear a0 a4 a3 G a2 N ae ao ad an s0 s1 s2 s3 hsame ax W
              go_ret2
              exact ⟨au.toNat,false,by rw [show ((au.toNat:Nat):Int)=au by omega]; rfl,by omega,by omega,b8.out⟩
       ·have q5:decide (x < z)=false:=by simpa using hxz
        have q6:z≤x:=by omega
        have af:Hid (Pq g n (fun A=>Pt (plt pv) D a b pv (I2) (J8 - 1) A∧plt pv A[(I2).toNat]! = false) w wr):=Lh (Pq.mk' ag ⟨a1.1.down (by omega) (bang hx) (show plt pv x=false from decide_eq_false (by omega)),a1.2⟩ aq a5)
        clear hx hz ag a1 a5 aR ay
        go_wp2
        go_quiet ((go_at_call 245; first | exact less_quiet _ _ | exact less_quiet2 _ _))
        go_wp2
        go_roundw
        case rel=>exact ⟨J8 - 1,by omega,by omega,by go_num,af.out.drewN _⟩
        case measure=>simp [intOf] <;> omega
      ·have qg:decide (I2≤J8)=false:=by simpa using hij
       have al:Hid (Pq g n (fun A=>Pt (plt pv) D a b pv (I2) (J8) A) w wr):=Lh (aR.out.imp fun A _ hA=>hA.1)
       clear aR
       go_wp2
       go_quiet (fail)
       go_wp2
       have b2:=Lh (al.out.drewN nq)
       clear al qg
       generalize wr.drewN nq=wx at b2 ⊢
       have aH:J8 < I2:=by omega
       obtain ⟨d2,ai,ah,u,a4⟩:=b2.out
       obtain ⟨x2,aj,ae⟩:=u.get (show J8.toNat < n by omega)
       obtain ⟨y2,ak,ao⟩:=u.get (show a < n by omega)
       have ad:=u.free J8.toNat (by omega)
       have an:=u.free a (by omega)
       have s0:(0:Int)≤J8:=by omega
       have s1:J8 < (n:Int):=by omega
       have s2:(0:Int)≤(a:Int):=by omega
       have s3:(a:Int) < (n:Int):=by omega
       have G:=Lh aj
       have a2:=Lh ak
       have a3:=Lh u
       have a0:=Lh ah
       have N:=Lh ai
       clear aj ak u ah ai b2
       by_cases hsame:J8.toNat=a
       ·rw [hsame] at ae ad G
        have az:x2=y2:=by have h1:=G.out; have h2:=a2.out; rw [h2] at h1; injection h1 with h1; exact h1.symm
        subst az
        have W:Hid (Split D a b pv J8.toNat (swp d2 J8.toNat a)):=Lh (a0.out.fin (by omega) (by omega) (by omega) (by rw [N.out]; omega))
        rw [show swp d2 J8.toNat a=swp d2 a a by rw [hsame]] at W
        go_wp2
        go_region
        go_wp2
        have b9:=Lh (Pq.swap (Q:=fun A=>Split D a b pv J8.toNat A) N.out a4 a3.out G.out G.out 1 rfl W.out)
        clear a0 a4 a3 G a2 N ae ao ad an s0 s1 s2 s3 hsame W
        go_ret2
        exact ⟨J8.toNat,true,by rw [show ((J8.toNat:Nat):Int)=J8 by omega]; rfl,by omega,by omega,b9.out⟩
       ·have ax:¬ a=J8.toNat:=fun e=>hsame e.symm
        have W:Hid (Split D a b pv J8.toNat (swp d2 J8.toNat a)):=Lh (a0.out.fin (by omega) (by omega) (by omega) (by rw [N.out]; omega))
        go_wp2
        go_region
        go_wp2
        have b9:=Lh (Pq.swap (Q:=fun A=>Split D a b pv J8.toNat A) N.out a4 a3.out G.out a2.out 1 rfl W.out)
        clear a0 a4 a3 G a2 N ae ao ad an s0 s1 s2 s3 hsame ax W
        go_ret2
        exact ⟨J8.toNat,true,by rw [show ((J8.toNat:Nat):Int)=J8 by omega]; rfl,by omega,by omega,b9.out⟩
   ·have qg:decide (I2≤J0)=false:=by simpa using hij
    have al:Hid (Pq g n (fun A=>Pt (plt pv) D a b pv (I2) (J0) A) w wr):=aM
    clear aM
    go_wp2
    go_quiet (fail)
    go_wp2
    have bu:=Lh (al.out.drewN nq)
    clear al qg
    generalize wr.drewN nq=wx at bu ⊢
    go_loopw [11] (fun sv wq=>∃ av:Int,(a:Int)≤av∧av≤J0∧sv=.int .i64 av∧Hid (Pq g n (fun A=>Pt (plt pv) D a b pv (I2) (av) A) w wq)) (fun sv _=>(intOf sv).toNat)
    case atStart=>exact ⟨J0,by omega,by omega,rfl,bu⟩
    case round=>
     obtain ⟨av,bU,cj,rfl,br⟩:=hrel
     by_cases hij:I2≤av
     ·exfalso; omega
     ·have qg:decide (I2≤av)=false:=by simpa using hij
      have al:Hid (Pq g n (fun A=>Pt (plt pv) D a b pv (I2) (av) A) w wr):=br
      clear br
      go_wp2
      go_quiet (fail)
      go_wp2
      have ba:=Lh (al.out.drewN nq)
      clear al qg
      generalize wr.drewN nq=wx at ba ⊢
      have aH:av < I2:=by omega
      obtain ⟨d2,ai,ah,u,a4⟩:=ba.out
      obtain ⟨x2,aj,ae⟩:=u.get (show av.toNat < n by omega)
      obtain ⟨y2,ak,ao⟩:=u.get (show a < n by omega)
      have ad:=u.free av.toNat (by omega)
      have an:=u.free a (by omega)
      have s0:(0:Int)≤av:=by omega
      have s1:av < (n:Int):=by omega
      have s2:(0:Int)≤(a:Int):=by omega
      have s3:(a:Int) < (n:Int):=by omega
      have G:=Lh aj
      have a2:=Lh ak
      have a3:=Lh u
      have a0:=Lh ah
      have N:=Lh ai
      clear aj ak u ah ai ba
      by_cases hsame:av.toNat=a
      ·rw [hsame] at ae ad G
       have az:x2=y2:=by have h1:=G.out; have h2:=a2.out; rw [h2] at h1; injection h1 with h1; exact h1.symm
       subst az
       have W:Hid (Split D a b pv av.toNat (swp d2 av.toNat a)):=Lh (a0.out.fin (by omega) (by omega) (by omega) (by rw [N.out]; omega))
       rw [show swp d2 av.toNat a=swp d2 a a by rw [hsame]] at W
       go_wp2
       go_region
       go_wp2
       have bb:=Lh (Pq.swap (Q:=fun A=>Split D a b pv av.toNat A) N.out a4 a3.out G.out G.out 1 rfl W.out)
       clear a0 a4 a3 G a2 N ae ao ad an s0 s1 s2 s3 hsame W
       go_ret2
       exact ⟨av.toNat,true,by rw [show ((av.toNat:Nat):Int)=av by omega]; rfl,by omega,by omega,bb.out⟩
      ·have ax:¬ a=av.toNat:=fun e=>hsame e.symm
       have W:Hid (Split D a b pv av.toNat (swp d2 av.toNat a)):=Lh (a0.out.fin (by omega) (by omega) (by omega) (by rw [N.out]; omega))
       go_wp2
       go_region
       go_wp2
       have bb:=Lh (Pq.swap (Q:=fun A=>Split D a b pv av.toNat A) N.out a4 a3.out G.out a2.out 1 rfl W.out)
       clear a0 a4 a3 G a2 N ae ao ad an s0 s1 s2 s3 hsame ax W
       go_ret2
       exact ⟨av.toNat,true,by rw [show ((av.toNat:Nat):Int)=av by omega]; rfl,by omega,by omega,bb.out⟩
 ·have ax:¬ a=p:=fun e=>hsame e.symm
  have W:Hid (Pt (plt pv) D a b pv ((a:Int)+1) ((b:Int) - 1) (swp d2 a p)):=Lh (Pt.init aT.out (by omega) (by omega) (by rw [← aS.out]; omega) a0.out)
  go_wp2
  go_region
  go_wp2
  have a1:=Lh (Pq.swap (Q:=fun A=>Pt (plt pv) D a b pv ((a:Int)+1) ((b:Int) - 1) A) N.out a4 a3.out G.out a2.out 1 rfl W.out)
  clear a0 a4 a3 G a2 N ae ao ad an s0 s1 s2 s3 hsame ax W aT aS
  obtain ⟨I0,aD⟩:∃ I0:Int,I0=(a:Int)+1:=⟨_,rfl⟩
  obtain ⟨J0,aE⟩:∃ J0:Int,J0=(b:Int) - 1:=⟨_,rfl⟩
  rw [← aD,← aE] at a1
  rw [← aD,← aE]
  have k1:(a:Int)+1≤I0:=by omega
  have k2:I0≤b:=by omega
  have k3:(a:Int)≤J0:=by omega
  have k4:J0 < b:=by omega
  clear aD aE
  go_loopw [10] (fun sv wq=>∃ ac:Int,I0≤ac∧ac≤(b:Int)∧sv=.int .i64 ac∧Hid (Pq g n (fun A=>Pt (plt pv) D a b pv (ac) (J0) A) w wq)) (fun sv _=>((b:Int) - intOf sv).toNat)
  case atStart=>exact ⟨I0,by omega,by omega,rfl,a1⟩
  case round=>
   obtain ⟨ac,bX,cn,rfl,aN⟩:=hrel
   by_cases hij:ac≤J0
   ·obtain ⟨d1,ag,a1,a5,aq⟩:=aN.out
    have aI:0≤ac:=by omega
    have aJ:ac < (n:Int):=by omega
    have aF:(0:Int)≤(a:Int):=by omega
    have aG:(a:Int) < (n:Int):=by omega
    obtain ⟨x,hx,aA⟩:=a5.get (show ac.toNat < n by omega)
    obtain ⟨z,hz,aB⟩:=a5.get (show a < n by omega)
    have ay:z=pv:=(bang hz).symm.trans a1.piv
    have qg:decide (ac≤J0)=true:=by simpa using hij
    by_cases hxz:x < z
    ·have q5:decide (x < z)=true:=by simpa using hxz
     have af:Hid (Pq g n (fun A=>Pt (plt pv) D a b pv (ac+1) (J0) A) w wr):=Lh (Pq.mk' ag (a1.up (by omega) (bang hx) (show plt pv x=true from decide_eq_true (by omega))) aq a5)
     clear hx hz ag a1 a5 aN ay
     go_wp2
     go_quiet ((go_at_call 245; first | exact less_quiet _ _ | exact less_quiet2 _ _))
     go_wp2
     go_roundw
     case rel=>exact ⟨ac+1,by omega,by omega,by go_num,af.out.drewN _⟩
     case measure=>simp [intOf] <;> omega
    ·have q5:decide (x < z)=false:=by simpa using hxz
     have q6:z≤x:=by omega
     have af:Hid (Pq g n (fun A=>Pt (plt pv) D a b pv (ac) (J0) A∧plt pv A[(ac).toNat]! = false) w wr):=Lh (Pq.mk' ag ⟨a1,by rw [bang hx]; exact (show plt pv x=false from decide_eq_false (by omega))⟩ aq a5)
     clear hx hz ag a1 a5 aN ay
     go_wp2
     go_quiet ((go_at_call 245; first | exact less_quiet _ _ | exact less_quiet2 _ _))
     go_wp2
     have bv:=Lh (af.out.drewN nq)
     clear af aA aB q5 q6 qg hxz aq
     generalize wr.drewN nq=wx at bv ⊢
     go_loopw [11] (fun sv wq=>∃ a8:Int,(a:Int)≤a8∧a8≤J0∧sv=.int .i64 a8∧Hid (Pq g n (fun A=>Pt (plt pv) D a b pv (ac) (a8) A∧plt pv A[(ac).toNat]! = false) w wq)) (fun sv _=>(intOf sv).toNat)
     case atStart=>exact ⟨J0,by omega,by omega,rfl,bv⟩
     case round=>
      obtain ⟨a8,bY,co,rfl,aO⟩:=hrel
      by_cases hij:ac≤a8
      ·obtain ⟨d1,ag,a1,a5,aq⟩:=aO.out
       have aI:0≤a8:=by omega
       have aJ:a8 < (n:Int):=by omega
       have aF:(0:Int)≤(a:Int):=by omega
       have aG:(a:Int) < (n:Int):=by omega
       obtain ⟨x,hx,aA⟩:=a5.get (show a8.toNat < n by omega)
       obtain ⟨z,hz,aB⟩:=a5.get (show a < n by omega)
       have ay:z=pv:=(bang hz).symm.trans a1.1.piv
       have qg:decide (ac≤a8)=true:=by simpa using hij
       by_cases hxz:x < z
       ·have q5:decide (x < z)=true:=by simpa using hxz
        have af:Hid (Pq g n (fun A=>Pt (plt pv) D a b pv (ac) (a8) A∧plt pv A[(ac).toNat]! = false∧plt pv A[(a8).toNat]! = true) w wr):=Lh (Pq.mk' ag ⟨a1.1,a1.2,by rw [bang hx]; exact (show plt pv x=true from decide_eq_true (by omega))⟩ aq a5)
        clear hx hz ag a1 a5 aO ay
        go_wp2
        go_quiet ((go_at_call 245; first | exact less_quiet _ _ | exact less_quiet2 _ _))
        go_wp2
        have bc:=Lh (af.out.drewN nq)
        clear af aA aB q5 qg hxz aq
        generalize wr.drewN nq=wx at bc ⊢
        have aU:ac≤a8:=hij
        obtain ⟨d2,ai,ah,u,a4⟩:=bc.out
        obtain ⟨x2,aj,ae⟩:=u.get (show ac.toNat < n by omega)
        obtain ⟨y2,ak,ao⟩:=u.get (show a8.toNat < n by omega)
        have ad:=u.free ac.toNat (by omega)
        have an:=u.free a8.toNat (by omega)
        have s0:(0:Int)≤ac:=by omega
        have s1:ac < (n:Int):=by omega
        have s2:(0:Int)≤a8:=by omega
        have s3:a8 < (n:Int):=by omega
        have G:=Lh aj
        have a2:=Lh ak
        have a3:=Lh u
        have a0:=Lh ah
        have N:=Lh ai
        clear aj ak u ah ai bc
        have aC:ac < a8:=by
         have h3:=a0.out.2.1
         have h4:=a0.out.2.2
         rcases Int.lt_or_le ac a8 with h5 | h5
         ·exact h5
         ·exfalso
          rw [show a8=ac by omega,h3] at h4
          cases h4
        have ax:¬ ac.toNat=a8.toNat:=by omega
        have W:Hid (Pt (plt pv) D a b pv (ac+1) (a8 - 1) (swp d2 ac.toNat a8.toNat)):=Lh (a0.out.1.swap (by omega) aC (by omega) (by rw [N.out]; omega) a0.out.2.1 a0.out.2.2)
        go_wp2
        go_region
        go_wp2
        have bJ:=Lh (Pq.swap (Q:=fun A=>Pt (plt pv) D a b pv (ac+1) (a8 - 1) A) N.out a4 a3.out G.out a2.out 1 rfl W.out)
        clear a0 a4 a3 G a2 N ae ao ad an s0 s1 s2 s3 ax aC W
        go_loopw [10,11] (fun si sj wr=>∃ I J:Int,(a:Int)+1≤I∧I≤b∧(a:Int)≤J∧J < b∧si=.int .i64 I∧sj=.int .i64 J∧Hid (Pq g n (fun A=>Pt (plt pv) D a b pv (I) (J) A) w wr)) (fun si sj _=>(intOf sj - intOf si+2).toNat)
        case atStart=>exact ⟨ac+1,a8 - 1,by omega,by omega,by omega,by omega,rfl,rfl,bJ⟩
        case round=>
         obtain ⟨I,J,aD,bG,aE,bH,rfl,rfl,aV⟩:=hrel
         go_wp2
         go_loopw [10] (fun sv wq=>∃ aa:Int,I≤aa∧aa≤(b:Int)∧sv=.int .i64 aa∧Hid (Pq g n (fun A=>Pt (plt pv) D a b pv (aa) (J) A) w wq)) (fun sv _=>((b:Int) - intOf sv).toNat)
         case atStart=>exact ⟨I,by omega,by omega,rfl,aV⟩
         case round=>
          obtain ⟨aa,bZ,cp,rfl,aP⟩:=hrel
          by_cases hij:aa≤J
          ·obtain ⟨d1,ag,a1,a5,aq⟩:=aP.out
           have aI:0≤aa:=by omega
           have aJ:aa < (n:Int):=by omega
           have aF:(0:Int)≤(a:Int):=by omega
           have aG:(a:Int) < (n:Int):=by omega
           obtain ⟨x,hx,aA⟩:=a5.get (show aa.toNat < n by omega)
           obtain ⟨z,hz,aB⟩:=a5.get (show a < n by omega)
           have ay:z=pv:=(bang hz).symm.trans a1.piv
           have qg:decide (aa≤J)=true:=by simpa using hij
           by_cases hxz:x < z
           ·have q5:decide (x < z)=true:=by simpa using hxz
            have af:Hid (Pq g n (fun A=>Pt (plt pv) D a b pv (aa+1) (J) A) w wr):=Lh (Pq.mk' ag (a1.up (by omega) (bang hx) (show plt pv x=true from decide_eq_true (by omega))) aq a5)
            clear hx hz ag a1 a5 aP ay
            go_wp2
            go_quiet ((go_at_call 245; first | exact less_quiet _ _ | exact less_quiet2 _ _))
            go_wp2
            go_roundw
            case rel=>exact ⟨aa+1,by omega,by omega,by go_num,af.out.drewN _⟩
            case measure=>simp [intOf] <;> omega
           ·have q5:decide (x < z)=false:=by simpa using hxz
            have q6:z≤x:=by omega
            have af:Hid (Pq g n (fun A=>Pt (plt pv) D a b pv (aa) (J) A∧plt pv A[(aa).toNat]! = false) w wr):=Lh (Pq.mk' ag ⟨a1,by rw [bang hx]; exact (show plt pv x=false from decide_eq_false (by omega))⟩ aq a5)
            clear hx hz ag a1 a5 aP ay
            go_wp2
            go_quiet ((go_at_call 245; first | exact less_quiet _ _ | exact less_quiet2 _ _))
            go_wp2
            have bz:=Lh (af.out.drewN nq)
            clear af aA aB q5 q6 qg hxz aq
            generalize wr.drewN nq=wx at bz ⊢
            go_loopw [11] (fun sv wq=>∃ a7:Int,(a:Int)≤a7∧a7≤J∧sv=.int .i64 a7∧Hid (Pq g n (fun A=>Pt (plt pv) D a b pv (aa) (a7) A∧plt pv A[(aa).toNat]! = false) w wq)) (fun sv _=>(intOf sv).toNat)
            case atStart=>exact ⟨J,by omega,by omega,rfl,bz⟩
            case round=>
             obtain ⟨a7,ca,cq,rfl,aQ⟩:=hrel
             by_cases hij:aa≤a7
             ·obtain ⟨d1,ag,a1,a5,aq⟩:=aQ.out
              have aI:0≤a7:=by omega
              have aJ:a7 < (n:Int):=by omega
              have aF:(0:Int)≤(a:Int):=by omega
              have aG:(a:Int) < (n:Int):=by omega
              obtain ⟨x,hx,aA⟩:=a5.get (show a7.toNat < n by omega)
              obtain ⟨z,hz,aB⟩:=a5.get (show a < n by omega)
              have ay:z=pv:=(bang hz).symm.trans a1.1.piv
              have qg:decide (aa≤a7)=true:=by simpa using hij
              by_cases hxz:x < z
              ·have q5:decide (x < z)=true:=by simpa using hxz
               have af:Hid (Pq g n (fun A=>Pt (plt pv) D a b pv (aa) (a7) A∧plt pv A[(aa).toNat]! = false∧plt pv A[(a7).toNat]! = true) w wr):=Lh (Pq.mk' ag ⟨a1.1,a1.2,by rw [bang hx]; exact (show plt pv x=true from decide_eq_true (by omega))⟩ aq a5)
               clear hx hz ag a1 a5 aQ ay
               go_wp2
               go_quiet ((go_at_call 245; first | exact less_quiet _ _ | exact less_quiet2 _ _))
               go_wp2
               have be:=Lh (af.out.drewN nq)
               clear af aA aB q5 qg hxz aq
               generalize wr.drewN nq=wx at be ⊢
               have aU:aa≤a7:=hij
               obtain ⟨d2,ai,ah,u,a4⟩:=be.out
               obtain ⟨x2,aj,ae⟩:=u.get (show aa.toNat < n by omega)
               obtain ⟨y2,ak,ao⟩:=u.get (show a7.toNat < n by omega)
               have ad:=u.free aa.toNat (by omega)
               have an:=u.free a7.toNat (by omega)
               have s0:(0:Int)≤aa:=by omega
               have s1:aa < (n:Int):=by omega
               have s2:(0:Int)≤a7:=by omega
               have s3:a7 < (n:Int):=by omega
               have G:=Lh aj
               have a2:=Lh ak
               have a3:=Lh u
               have a0:=Lh ah
               have N:=Lh ai
               clear aj ak u ah ai be
               have aC:aa < a7:=by
                have h3:=a0.out.2.1
                have h4:=a0.out.2.2
                rcases Int.lt_or_le aa a7 with h5 | h5
                ·exact h5
                ·exfalso
                 rw [show a7=aa by omega,h3] at h4
                 cases h4
               have ax:¬ aa.toNat=a7.toNat:=by omega
               have W:Hid (Pt (plt pv) D a b pv (aa+1) (a7 - 1) (swp d2 aa.toNat a7.toNat)):=Lh (a0.out.1.swap (by omega) aC (by omega) (by rw [N.out]; omega) a0.out.2.1 a0.out.2.2)
               go_wp2
               go_region
               go_wp2
               have bB:=Lh (Pq.swap (Q:=fun A=>Pt (plt pv) D a b pv (aa+1) (a7 - 1) A) N.out a4 a3.out G.out a2.out 1 rfl W.out)
               clear a0 a4 a3 G a2 N ae ao ad an s0 s1 s2 s3 ax aC W
               go_roundw
               case rel=>first | exact ⟨aa+1,a7 - 1,by omega,by omega,by omega,by omega,by go_num,by go_num,bB.out⟩ | ((repeat apply Exists.intro); exact ⟨⟨aa+1,a7 - 1,by omega,by omega,by omega,by omega,by go_num,by go_num,bB.out⟩,rfl⟩)
               case measure=>simp [intOf] <;> omega
              ·have q5:decide (x < z)=false:=by simpa using hxz
               have q6:z≤x:=by omega
               have af:Hid (Pq g n (fun A=>Pt (plt pv) D a b pv (aa) (a7 - 1) A∧plt pv A[(aa).toNat]! = false) w wr):=Lh (Pq.mk' ag ⟨a1.1.down (by omega) (bang hx) (show plt pv x=false from decide_eq_false (by omega)),a1.2⟩ aq a5)
               clear hx hz ag a1 a5 aQ ay
               go_wp2
               go_quiet ((go_at_call 245; first | exact less_quiet _ _ | exact less_quiet2 _ _))
               go_wp2
               go_roundw
               case rel=>exact ⟨a7 - 1,by omega,by omega,by go_num,af.out.drewN _⟩
               case measure=>simp [intOf] <;> omega
             ·have qg:decide (aa≤a7)=false:=by simpa using hij
              have al:Hid (Pq g n (fun A=>Pt (plt pv) D a b pv (aa) (a7) A) w wr):=Lh (aQ.out.imp fun A _ hA=>hA.1)
              clear aQ
              go_wp2
              go_quiet (fail)
              go_wp2
              have bg:=Lh (al.out.drewN nq)
              clear al qg
              generalize wr.drewN nq=wx at bg ⊢
              have aH:a7 < aa:=by omega
              obtain ⟨d2,ai,ah,u,a4⟩:=bg.out
              obtain ⟨x2,aj,ae⟩:=u.get (show a7.toNat < n by omega)
              obtain ⟨y2,ak,ao⟩:=u.get (show a < n by omega)
              have ad:=u.free a7.toNat (by omega)
              have an:=u.free a (by omega)
              have s0:(0:Int)≤a7:=by omega
              have s1:a7 < (n:Int):=by omega
              have s2:(0:Int)≤(a:Int):=by omega
              have s3:(a:Int) < (n:Int):=by omega
              have G:=Lh aj
              have a2:=Lh ak
              have a3:=Lh u
              have a0:=Lh ah
              have N:=Lh ai
              clear aj ak u ah ai bg
              by_cases hsame:a7.toNat=a
              ·rw [hsame] at ae ad G
               have az:x2=y2:=by have h1:=G.out; have h2:=a2.out; rw [h2] at h1; injection h1 with h1; exact h1.symm
               subst az
               have W:Hid (Split D a b pv a7.toNat (swp d2 a7.toNat a)):=Lh (a0.out.fin (by omega) (by omega) (by omega) (by rw [N.out]; omega))
               rw [show swp d2 a7.toNat a=swp d2 a a by rw [hsame]] at W
               go_wp2
               go_region
               go_wp2
               have bh:=Lh (Pq.swap (Q:=fun A=>Split D a b pv a7.toNat A) N.out a4 a3.out G.out G.out 1 rfl W.out)
               clear a0 a4 a3 G a2 N ae ao ad an s0 s1 s2 s3 hsame W
               go_ret2
               exact ⟨a7.toNat,false,by rw [show ((a7.toNat:Nat):Int)=a7 by omega]; rfl,by omega,by omega,bh.out⟩
              ·have ax:¬ a=a7.toNat:=fun e=>hsame e.symm
               have W:Hid (Split D a b pv a7.toNat (swp d2 a7.toNat a)):=Lh (a0.out.fin (by omega) (by omega) (by omega) (by rw [N.out]; omega))
               go_wp2
               go_region
               go_wp2
               have bh:=Lh (Pq.swap (Q:=fun A=>Split D a b pv a7.toNat A) N.out a4 a3.out G.out a2.out 1 rfl W.out)
               clear a0 a4 a3 G a2 N ae ao ad an s0 s1 s2 s3 hsame ax W
               go_ret2
               exact ⟨a7.toNat,false,by rw [show ((a7.toNat:Nat):Int)=a7 by omega]; rfl,by omega,by omega,bh.out⟩
          ·have qg:decide (aa≤J)=false:=by simpa using hij
           have al:Hid (Pq g n (fun A=>Pt (plt pv) D a b pv (aa) (J) A) w wr):=aP
           clear aP
           go_wp2
           go_quiet (fail)
           go_wp2
           have bA:=Lh (al.out.drewN nq)
           clear al qg
           generalize wr.drewN nq=wx at bA ⊢
           go_loopw [11] (fun sv wq=>∃ aw:Int,(a:Int)≤aw∧aw≤J∧sv=.int .i64 aw∧Hid (Pq g n (fun A=>Pt (plt pv) D a b pv (aa) (aw) A) w wq)) (fun sv _=>(intOf sv).toNat)
           case atStart=>exact ⟨J,by omega,by omega,rfl,bA⟩
           case round=>
            obtain ⟨aw,cb,ct,rfl,bC⟩:=hrel
            by_cases hij:aa≤aw
            ·exfalso; omega
            ·have qg:decide (aa≤aw)=false:=by simpa using hij
             have al:Hid (Pq g n (fun A=>Pt (plt pv) D a b pv (aa) (aw) A) w wr):=bC
             clear bC
             go_wp2
             go_quiet (fail)
             go_wp2
             have aW:=Lh (al.out.drewN nq)
             clear al qg
             generalize wr.drewN nq=wx at aW ⊢
             have aH:aw < aa:=by omega
             obtain ⟨d2,ai,ah,u,a4⟩:=aW.out
             obtain ⟨x2,aj,ae⟩:=u.get (show aw.toNat < n by omega)
             obtain ⟨y2,ak,ao⟩:=u.get (show a < n by omega)
             have ad:=u.free aw.toNat (by omega)
             have an:=u.free a (by omega)
             have s0:(0:Int)≤aw:=by omega
             have s1:aw < (n:Int):=by omega
             have s2:(0:Int)≤(a:Int):=by omega
             have s3:(a:Int) < (n:Int):=by omega
             have G:=Lh aj
             have a2:=Lh ak
             have a3:=Lh u
             have a0:=Lh ah
             have N:=Lh ai
             clear aj ak u ah ai aW
             by_cases hsame:aw.toNat=a
             ·rw [hsame] at ae ad G
              have az:x2=y2:=by have h1:=G.out; have h2:=a2.out; rw [h2] at h1; injection h1 with h1; exact h1.symm
              subst az
              have W:Hid (Split D a b pv aw.toNat (swp d2 aw.toNat a)):=Lh (a0.out.fin (by omega) (by omega) (by omega) (by rw [N.out]; omega))
              rw [show swp d2 aw.toNat a=swp d2 a a by rw [hsame]] at W
              go_wp2
              go_region
              go_wp2
              have aX:=Lh (Pq.swap (Q:=fun A=>Split D a b pv aw.toNat A) N.out a4 a3.out G.out G.out 1 rfl W.out)
              clear a0 a4 a3 G a2 N ae ao ad an s0 s1 s2 s3 hsame W
              go_ret2
              exact ⟨aw.toNat,false,by rw [show ((aw.toNat:Nat):Int)=aw by omega]; rfl,by omega,by omega,aX.out⟩
             ·have ax:¬ a=aw.toNat:=fun e=>hsame e.symm
              have W:Hid (Split D a b pv aw.toNat (swp d2 aw.toNat a)):=Lh (a0.out.fin (by omega) (by omega) (by omega) (by rw [N.out]; omega))
              go_wp2
              go_region
              go_wp2
              have aX:=Lh (Pq.swap (Q:=fun A=>Split D a b pv aw.toNat A) N.out a4 a3.out G.out a2.out 1 rfl W.out)
              clear a0 a4 a3 G a2 N ae ao ad an s0 s1 s2 s3 hsame ax W
              go_ret2
              exact ⟨aw.toNat,false,by rw [show ((aw.toNat:Nat):Int)=aw by omega]; rfl,by omega,by omega,aX.out⟩
       ·have q5:decide (x < z)=false:=by simpa using hxz
        have q6:z≤x:=by omega
        have af:Hid (Pq g n (fun A=>Pt (plt pv) D a b pv (ac) (a8 - 1) A∧plt pv A[(ac).toNat]! = false) w wr):=Lh (Pq.mk' ag ⟨a1.1.down (by omega) (bang hx) (show plt pv x=false from decide_eq_false (by omega)),a1.2⟩ aq a5)
        clear hx hz ag a1 a5 aO ay
        go_wp2
        go_quiet ((go_at_call 245; first | exact less_quiet _ _ | exact less_quiet2 _ _))
        go_wp2
        go_roundw
        case rel=>exact ⟨a8 - 1,by omega,by omega,by go_num,af.out.drewN _⟩
        case measure=>simp [intOf] <;> omega
      ·have qg:decide (ac≤a8)=false:=by simpa using hij
       have al:Hid (Pq g n (fun A=>Pt (plt pv) D a b pv (ac) (a8) A) w wr):=Lh (aO.out.imp fun A _ hA=>hA.1)
       clear aO
       go_wp2
       go_quiet (fail)
       go_wp2
       have bd:=Lh (al.out.drewN nq)
       clear al qg
       generalize wr.drewN nq=wx at bd ⊢
       have aH:a8 < ac:=by omega
       obtain ⟨d2,ai,ah,u,a4⟩:=bd.out
       obtain ⟨x2,aj,ae⟩:=u.get (show a8.toNat < n by omega)
       obtain ⟨y2,ak,ao⟩:=u.get (show a < n by omega)
       have ad:=u.free a8.toNat (by omega)
       have an:=u.free a (by omega)
       have s0:(0:Int)≤a8:=by omega
       have s1:a8 < (n:Int):=by omega
       have s2:(0:Int)≤(a:Int):=by omega
       have s3:(a:Int) < (n:Int):=by omega
       have G:=Lh aj
       have a2:=Lh ak
       have a3:=Lh u
       have a0:=Lh ah
       have N:=Lh ai
       clear aj ak u ah ai bd
       by_cases hsame:a8.toNat=a
       ·rw [hsame] at ae ad G
        have az:x2=y2:=by have h1:=G.out; have h2:=a2.out; rw [h2] at h1; injection h1 with h1; exact h1.symm
        subst az
        have W:Hid (Split D a b pv a8.toNat (swp d2 a8.toNat a)):=Lh (a0.out.fin (by omega) (by omega) (by omega) (by rw [N.out]; omega))
        rw [show swp d2 a8.toNat a=swp d2 a a by rw [hsame]] at W
        go_wp2
        go_region
        go_wp2
        have aY:=Lh (Pq.swap (Q:=fun A=>Split D a b pv a8.toNat A) N.out a4 a3.out G.out G.out 1 rfl W.out)
        clear a0 a4 a3 G a2 N ae ao ad an s0 s1 s2 s3 hsame W
        go_ret2
        exact ⟨a8.toNat,true,by rw [show ((a8.toNat:Nat):Int)=a8 by omega]; rfl,by omega,by omega,aY.out⟩
       ·have ax:¬ a=a8.toNat:=fun e=>hsame e.symm
        have W:Hid (Split D a b pv a8.toNat (swp d2 a8.toNat a)):=Lh (a0.out.fin (by omega) (by omega) (by omega) (by rw [N.out]; omega))
        go_wp2
        go_region
        go_wp2
        have aY:=Lh (Pq.swap (Q:=fun A=>Split D a b pv a8.toNat A) N.out a4 a3.out G.out a2.out 1 rfl W.out)
        clear a0 a4 a3 G a2 N ae ao ad an s0 s1 s2 s3 hsame ax W
        go_ret2
        exact ⟨a8.toNat,true,by rw [show ((a8.toNat:Nat):Int)=a8 by omega]; rfl,by omega,by omega,aY.out⟩
   ·have qg:decide (ac≤J0)=false:=by simpa using hij
    have al:Hid (Pq g n (fun A=>Pt (plt pv) D a b pv (ac) (J0) A) w wr):=aN
    clear aN
    go_wp2
    go_quiet (fail)
    go_wp2
    have bw:=Lh (al.out.drewN nq)
    clear al qg
    generalize wr.drewN nq=wx at bw ⊢
    go_loopw [11] (fun sv wq=>∃ ar:Int,(a:Int)≤ar∧ar≤J0∧sv=.int .i64 ar∧Hid (Pq g n (fun A=>Pt (plt pv) D a b pv (ac) (ar) A) w wq)) (fun sv _=>(intOf sv).toNat)
    case atStart=>exact ⟨J0,by omega,by omega,rfl,bw⟩
    case round=>
     obtain ⟨ar,bO,cd,rfl,bj⟩:=hrel
     by_cases hij:ac≤ar
     ·exfalso; omega
     ·have qg:decide (ac≤ar)=false:=by simpa using hij
      have al:Hid (Pq g n (fun A=>Pt (plt pv) D a b pv (ac) (ar) A) w wr):=bj
      clear bj
      go_wp2
      go_quiet (fail)
      go_wp2
      have aZ:=Lh (al.out.drewN nq)
      clear al qg
      generalize wr.drewN nq=wx at aZ ⊢
      have aH:ar < ac:=by omega
      obtain ⟨d2,ai,ah,u,a4⟩:=aZ.out
      obtain ⟨x2,aj,ae⟩:=u.get (show ar.toNat < n by omega)
      obtain ⟨y2,ak,ao⟩:=u.get (show a < n by omega)
      have ad:=u.free ar.toNat (by omega)
      have an:=u.free a (by omega)
      have s0:(0:Int)≤ar:=by omega
      have s1:ar < (n:Int):=by omega
      have s2:(0:Int)≤(a:Int):=by omega
      have s3:(a:Int) < (n:Int):=by omega
      have G:=Lh aj
      have a2:=Lh ak
      have a3:=Lh u
      have a0:=Lh ah
      have N:=Lh ai
      clear aj ak u ah ai aZ
      by_cases hsame:ar.toNat=a
      ·rw [hsame] at ae ad G
       have az:x2=y2:=by have h1:=G.out; have h2:=a2.out; rw [h2] at h1; injection h1 with h1; exact h1.symm
       subst az
       have W:Hid (Split D a b pv ar.toNat (swp d2 ar.toNat a)):=Lh (a0.out.fin (by omega) (by omega) (by omega) (by rw [N.out]; omega))
       rw [show swp d2 ar.toNat a=swp d2 a a by rw [hsame]] at W
       go_wp2
       go_region
       go_wp2
       have b3:=Lh (Pq.swap (Q:=fun A=>Split D a b pv ar.toNat A) N.out a4 a3.out G.out G.out 1 rfl W.out)
       clear a0 a4 a3 G a2 N ae ao ad an s0 s1 s2 s3 hsame W
       go_ret2
       exact ⟨ar.toNat,true,by rw [show ((ar.toNat:Nat):Int)=ar by omega]; rfl,by omega,by omega,b3.out⟩
      ·have ax:¬ a=ar.toNat:=fun e=>hsame e.symm
       have W:Hid (Split D a b pv ar.toNat (swp d2 ar.toNat a)):=Lh (a0.out.fin (by omega) (by omega) (by omega) (by rw [N.out]; omega))
       go_wp2
       go_region
       go_wp2
       have b3:=Lh (Pq.swap (Q:=fun A=>Split D a b pv ar.toNat A) N.out a4 a3.out G.out a2.out 1 rfl W.out)
       clear a0 a4 a3 G a2 N ae ao ad an s0 s1 s2 s3 hsame ax W
       go_ret2
       exact ⟨ar.toNat,true,by rw [show ((ar.toNat:Nat):Int)=ar by omega]; rfl,by omega,by omega,b3.out⟩
end Go.Proofs.YtaeemilldmhbnaaGreatDoor.So
namespace Go.Proofs.YtaeemilldmhbnaaGreatDoor.So
open Go.ChangeShapes Go.WideShapes Go.ChangeAt Go.RowKit Rw
open Go.Sort (swp ltInt PermIn SortedIn partialIns partialInsertionSort scanSorted shiftDown shiftUp swo_ltInt)
section
variable {a b s i:Nat} {A:Array Int} {x y:Int}
theorem pins_up (hi:i < b) (hx:A[i]! = x) (u:A[i - 1]! = y) (h:¬ x < y):partialIns ltInt a b (s+1) i A=partialIns ltInt a b (s+1) (i+1) A:=by
 have e:scanSorted ltInt A b i=scanSorted ltInt A b (i+1):=by
  rw [scanSorted,hx,u,lt_f h,decide_eq_true hi]; rfl
 rw [Go.Sort.partialIns_succ,Go.Sort.partialIns_succ,e]
theorem pins_end:partialIns ltInt a b (s+1) b A=(A,true):=by
 have e:scanSorted ltInt A b b=b:=by rw [scanSorted,decide_eq_false (Nat.lt_irrefl b)]; rfl
 rw [Go.Sort.partialIns_succ,e,if_pos rfl]
theorem scan_stop (hi:i < b) (hx:A[i]! = x) (u:A[i - 1]! = y) (h:x < y):scanSorted ltInt A b i=i:=by
 rw [scanSorted,hx,u,lt_t h,decide_eq_true hi]; rfl
theorem pins_stop (hi:i < b) (hx:A[i]! = x) (G:A[i - 1]! = y) (h:x < y) (u:b - a < 50):partialIns ltInt a b (s+1) i A=(A,false):=by
 rw [Go.Sort.partialIns_succ,scan_stop hi hx G h,if_neg (by omega),if_pos u]
theorem pins_go (hi:i < b) (hx:A[i]! = x) (G:A[i - 1]! = y) (h:x < y) (u:¬ b - a < 50):partialIns ltInt a b (s+1) i A=partialIns ltInt a b s i (Go.Sort.fixUp ltInt b i (Go.Sort.fixDown ltInt a i (swp A i (i - 1)))):=by
 rw [Go.Sort.partialIns_succ,scan_stop hi hx G h,if_neg (by omega),if_neg u]
theorem down_go {m:Nat} (hi:i=m+1) (hx:A[i]! = x) (u:A[m]! = y) (h:x < y):shiftDown ltInt i A=shiftDown ltInt m (swp A i m):=by
 subst hi
 rw [shiftDown,hx,u,lt_t h]; rfl
theorem down_stop {m:Nat} (hi:i=m+1) (hx:A[i]! = x) (u:A[m]! = y) (h:¬ x < y):shiftDown ltInt i A=A:=by
 subst hi
 rw [shiftDown,hx,u,lt_f h]; rfl
theorem down_end (hi:i=0):shiftDown ltInt i A=A:=by subst hi; rw [shiftDown]
theorem up_go (hi:i < b) (hx:A[i]! = x) (u:A[i - 1]! = y) (h:x < y):shiftUp ltInt b i A=shiftUp ltInt b (i+1) (swp A i (i - 1)):=by
 conv=>lhs; rw [shiftUp]
 rw [if_pos hi,hx,u,lt_t h]; rfl
theorem up_stop (hx:A[i]! = x) (u:A[i - 1]! = y) (h:¬ x < y):shiftUp ltInt b i A=A:=by
 rw [shiftUp,hx,u,lt_f h]; simp
theorem up_end (hi:¬ i < b):shiftUp ltInt b i A=A:=by rw [shiftUp,if_neg hi]
end
theorem partial_srt (g n c:Nat) (D:Array Int) (a b:Nat) (w:World) (hD:D.size=n) (h:Row w g n D.toList) (ha:a < b) (hb:b≤n) (hB:Go.Sort.Below ltInt a b D) (hn:n≤1152921504606846976) :
  Calls Tryz.prog 244 #[.slice (some ⟨g,0,none⟩) n c,.int .i64 a,.int .i64 b] w fun e w'=>∃ t:Bool,e=.returned (.bool t)∧Pq g n (fun A=>PermIn a b D A∧(t=true→SortedIn ltInt a b A)) w w':=by
 have al:=Lh (Go.Sort.partialInsertionSort_holds swo_ltInt D a b ha (by rw [hD]; exact hb) hB)
 obtain ⟨T,hT⟩:∃ T,partialInsertionSort ltInt D a b=T:=⟨_,rfl⟩
 rw [hT] at al
 have aI:Hid (Pq g n (fun A=>partialIns ltInt a b 5 (a+1) A=T) w w):=Lh (Pq.start hD hT h)
 clear h hT hD hB
 go_enter Tryz.func244,Tryz.ntmps244
 go_wp2
 go_loopw [7,8] (fun si sj wr=>∃ (I:Int) (j:Nat),(a:Int)+1≤I∧I≤b∧j≤5∧si=.int .i64 I∧sj=.int .i64 j∧Hid (Pq g n (fun A=>partialIns ltInt a b (5 - j) I.toNat A=T) w wr)) (fun _ sj _=>5 - (intOf sj).toNat)
 case atStart=>exact ⟨(a:Int)+1,0,by omega,by omega,by omega,rfl,rfl,by rw [show ((a:Int)+1).toNat=a+1 by omega]; exact aI⟩
 case round=>
  obtain ⟨I,j,aG,aH,hj,rfl,rfl,ak⟩:=hrel
  by_cases hj5:j < 5
  ·have qj:decide ((j:Int) < 5)=true:=by simp; omega
   obtain ⟨s,hs⟩:∃ s,5 - j=s+1:=⟨4 - j,by omega⟩
   rw [hs] at ak
   go_wp2
   go_loopw [7] (fun sv wq=>∃ u:Int,(a:Int)+1≤u∧u≤b∧sv=.int .i64 u∧Hid (Pq g n (fun A=>partialIns ltInt a b (s+1) u.toNat A=T) w wq)) (fun sv _=>((b:Int) - intOf sv).toNat)
   case atStart=>exact ⟨I,aG,aH,rfl,ak⟩
   case round=>
    clear ak
    obtain ⟨u,k0,k1,rfl,aA⟩:=hrel
    by_cases hib:u < (b:Int)
    ·obtain ⟨m,hm⟩:=Int.eq_ofNat_of_zero_le (show 0≤u - 1 by omega)
     have v0:0≤u:=by omega
     have v1:u < (n:Int):=by omega
     have v2:(0:Int)≤(m:Int):=by omega
     have v3:(m:Int) < (n:Int):=by omega
     have aa:u.toNat≠m:=by omega
     have w1:IntKind.i64.wrap (u - 1)=(m:Int):=by rw [hm]; exact IntWalk.i64_in _ (by omega)
     obtain ⟨d1,a8,a7,N,a4⟩:=aA.out
     obtain ⟨x,hx,ac⟩:=N.get (show u.toNat < n by omega)
     obtain ⟨y,hy,ad⟩:=N.get (show m < n by omega)
     have fx:=N.free u.toNat (by omega)
     have fy:=N.free m (by omega)
     have W:=Lh hx
     have HY:=Lh hy
     have a3:=Lh N
     have a2:=Lh a7
     have a1:=Lh a8
     have HM:=Lh hm
     have a0:Hid (u.toNat=m+1):=Lh (by omega)
     clear hx hy N a7 hm a8 aA
     have qg:decide (u < (b:Int))=true:=by simpa using hib
     have an:Hid (d1[u.toNat - 1]! = y):=Lh (by rw [a0.out]; exact bang HY.out)
     by_cases hxy:x < y
     ·have q5:decide (x < y)=true:=by simpa using hxy
      have qe:(u == (b:Int))=false:=by rw [beq_eq_false_iff_ne]; omega
      by_cases h50:(b:Int) - a < 50
      ·have J:Hid (Pq g n (fun A=>PermIn a b D A∧(false=true→SortedIn ltInt a b A)) w wr):=Lh (Pq.mk' a1.out (by
        have G:=a2.out
        rw [pins_stop (by omega) (bang W.out) an.out hxy (by omega)] at G
        have h8:=al.out.1
        rw [← G] at h8
        exact ⟨h8,fun e=>by cases e⟩) a4 a3.out)
       go_wp2
       go_quiet ((go_at_call 245; first | exact less_quiet _ _ | exact less_quiet2 _ _))
       go_wp2
       go_ret
       exact ⟨false,rfl,J.out.drewN _⟩
      ·have af:Hid (partialIns ltInt a b s u.toNat (Go.Sort.fixUp ltInt b u.toNat (Go.Sort.fixDown ltInt a u.toNat (swp d1 u.toNat (u.toNat - 1))))=T):=Lh (by
        have G:=a2.out
        rw [pins_go (by omega) (bang W.out) an.out hxy (by omega)] at G
        exact G)
       clear an
       go_wp2
       go_quiet ((go_at_call 245; first | exact less_quiet _ _ | exact less_quiet2 _ _))
       go_wp2
       generalize aj:wr.drewN nq=wx
       have ar:wx.cell? ⟨g,u.toNat,none⟩=some (.int .u64 x):=by rw [← aj]; exact ac
       have au:wx.cell? ⟨g,m,none⟩=some (.int .u64 y):=by rw [← aj]; exact ad
       have ao:wx.frozen? ⟨g,u.toNat,none⟩=false:=by rw [← aj]; exact fx
       have aq:wx.frozen? ⟨g,m,none⟩=false:=by rw [← aj]; exact fy
       have ah:Hid (Row wx g n d1.toList):=by rw [← aj]; exact a3.out.drewN nq
       have ag:Hid (w.grownBy wx (some g)):=by rw [← aj]; exact a4.trans (grown_drewN _ _ _)
       clear aj ac ad fx fy a3 a4
       go_wp2
       go_region
       by_cases hl2:2≤u - (a:Int) <;> by_cases hr2:2≤(b:Int) - u
       ·have J:Hid (partialIns ltInt a b s u.toNat (shiftUp ltInt b (u+1).toNat (shiftDown ltInt m (swp d1 u.toNat m)))=T):=Lh (by
         have G:=af.out
         unfold Go.Sort.fixUp Go.Sort.fixDown at G
         rw [if_pos (by omega),if_pos (by omega)] at G
         rw [show u.toNat - 1=m by have:=a0.out; omega] at G; rw [show (u+1).toNat=u.toNat+1 by omega]; exact G)
        go_wp2
        have ae:=Lh (Pq.swap (Q:=fun A=>partialIns ltInt a b s u.toNat (shiftUp ltInt b (u+1).toNat (shiftDown ltInt m A))=T) a1.out ag.out ah.out W.out HY.out 1 rfl J.out)
        have ai:=HM
        clear W HY ah ag a2 a1 HM a0 af J ar au ao aq v0 v1 v2 v3 aa w1 q5 qg qe hxy
        generalize ((wx.drew.setCell ⟨g,u.toNat,none⟩ (.int .u64 y)).setCell ⟨g,m,none⟩ (.int .u64 x))=wy at ae ⊢
        go_loopw [9] (fun sv wq=>∃ V1:Int,0≤V1∧V1 < (b:Int)∧sv=.int .i64 V1∧Hid (Pq g n (fun A=>partialIns ltInt a b s u.toNat (shiftUp ltInt b (u+1).toNat (shiftDown ltInt (V1).toNat A))=T) w wq)) (fun sv _=>(intOf sv).toNat)
        case atStart=>exact ⟨(m:Int),by have:=ai.out; omega,by have:=ai.out; omega,by first | rfl | go_num,by rw [show ((m:Int)).toNat=m from rfl]; exact ae⟩
        case round=>
         obtain ⟨V1,aM,aS,rfl,ax⟩:=hrel
         by_cases hvt:1≤V1
         ·obtain ⟨m,hm⟩:=Int.eq_ofNat_of_zero_le (show 0≤V1 - 1 by omega)
          have v0:0≤V1:=by omega
          have v1:V1 < (n:Int):=by omega
          have v2:(0:Int)≤(m:Int):=by omega
          have v3:(m:Int) < (n:Int):=by omega
          have aa:V1.toNat≠m:=by omega
          have w1:IntKind.i64.wrap (V1 - 1)=(m:Int):=by rw [hm]; exact IntWalk.i64_in _ (by omega)
          obtain ⟨d1,a8,a7,N,a4⟩:=ax.out
          obtain ⟨x,hx,ac⟩:=N.get (show V1.toNat < n by omega)
          obtain ⟨y,hy,ad⟩:=N.get (show m < n by omega)
          have fx:=N.free V1.toNat (by omega)
          have fy:=N.free m (by omega)
          have W:=Lh hx
          have HY:=Lh hy
          have a3:=Lh N
          have a2:=Lh a7
          have a1:=Lh a8
          have HM:=Lh hm
          have a0:Hid (V1.toNat=m+1):=Lh (by omega)
          clear hx hy N a7 hm a8 ax
          by_cases hxy:x < y
          ·have q5:decide (x < y)=true:=by simpa using hxy
           have J:Hid (partialIns ltInt a b s u.toNat (shiftUp ltInt b (u+1).toNat (shiftDown ltInt ((m:Int)).toNat (swp d1 V1.toNat m)))=T):=Lh (by have G:=a2.out; rw [down_go a0.out (bang W.out) (bang HY.out) hxy] at G; exact G)
           go_wp2
           go_quiet ((go_at_call 245; first | exact less_quiet _ _ | exact less_quiet2 _ _))
           go_wp2
           go_region
           go_wp2
           go_roundw
           case rel=>exact ⟨(m:Int),by have:=HM.out; omega,by have:=HM.out; omega,by first | rfl | go_num,Pq.swap a1.out (a4.trans (grown_drewN _ _ _)) (a3.out.drewN _) W.out HY.out 1 rfl J.out⟩
           case measure=>simp [intOf]; have:=HM.out; omega
          ·have q5:decide (x < y)=false:=by simpa using hxy
           have q6:y≤x:=by omega
           have J:Hid (partialIns ltInt a b s u.toNat (shiftUp ltInt b (u+1).toNat d1)=T):=Lh (by have G:=a2.out; rw [down_stop a0.out (bang W.out) (bang HY.out) hxy] at G; exact G)
           go_wp2
           go_quiet ((go_at_call 245; first | exact less_quiet _ _ | exact less_quiet2 _ _))
           go_wp2
           have aF:=Lh ((Pq.mk' (P:=fun A=>partialIns ltInt a b s u.toNat (shiftUp ltInt b (u+1).toNat A)=T) a1.out J.out a4 a3.out).drewN nq)
           clear W HY a3 a2 a1 HM a0 ac ad fx fy a4 v0 v1 v2 v3 aa w1 q5 q6 hxy J
           generalize wr.drewN nq=wx at aF ⊢
           go_loopw [10] (fun sv wq=>∃ V6:Int,u+1≤V6∧V6≤(b:Int)∧sv=.int .i64 V6∧Hid (Pq g n (fun A=>partialIns ltInt a b s u.toNat (shiftUp ltInt b (V6).toNat A)=T) w wq)) (fun sv _=>((b:Int) - intOf sv).toNat)
           case atStart=>exact ⟨u+1,by omega,by omega,by first | rfl | go_num,aF⟩
           case round=>
            obtain ⟨V6,aN,aO,rfl,az⟩:=hrel
            by_cases hvt:V6 < (b:Int)
            ·obtain ⟨m,hm⟩:=Int.eq_ofNat_of_zero_le (show 0≤V6 - 1 by omega)
             have v0:0≤V6:=by omega
             have v1:V6 < (n:Int):=by omega
             have v2:(0:Int)≤(m:Int):=by omega
             have v3:(m:Int) < (n:Int):=by omega
             have aa:V6.toNat≠m:=by omega
             have w1:IntKind.i64.wrap (V6 - 1)=(m:Int):=by rw [hm]; exact IntWalk.i64_in _ (by omega)
             obtain ⟨d1,a8,a7,N,a4⟩:=az.out
             obtain ⟨x,hx,ac⟩:=N.get (show V6.toNat < n by omega)
             obtain ⟨y,hy,ad⟩:=N.get (show m < n by omega)
             have fx:=N.free V6.toNat (by omega)
             have fy:=N.free m (by omega)
             have W:=Lh hx
             have HY:=Lh hy
             have a3:=Lh N
             have a2:=Lh a7
             have a1:=Lh a8
             have HM:=Lh hm
             have a0:Hid (V6.toNat=m+1):=Lh (by omega)
             clear hx hy N a7 hm a8 az
             by_cases hxy:x < y
             ·have q5:decide (x < y)=true:=by simpa using hxy
              have J:Hid (partialIns ltInt a b s u.toNat (shiftUp ltInt b (V6+1).toNat (swp d1 V6.toNat m))=T):=Lh (by have G:=a2.out; rw [up_go (by omega) (bang W.out) (by rw [a0.out]; exact bang HY.out) hxy] at G; rw [show (V6+1).toNat=V6.toNat+1 by omega]; rw [show V6.toNat - 1=m by have:=a0.out; omega] at G; exact G)
              go_wp2
              go_quiet ((go_at_call 245; first | exact less_quiet _ _ | exact less_quiet2 _ _))
              go_wp2
              go_region
              go_wp2
              go_roundw
              case rel=>exact ⟨V6+1,by have:=HM.out; omega,by have:=HM.out; omega,by first | rfl | go_num,Pq.swap a1.out (a4.trans (grown_drewN _ _ _)) (a3.out.drewN _) W.out HY.out 1 rfl J.out⟩
              case measure=>simp [intOf]; have:=HM.out; omega
             ·have q5:decide (x < y)=false:=by simpa using hxy
              have q6:y≤x:=by omega
              have J:Hid (partialIns ltInt a b s u.toNat d1=T):=Lh (by have G:=a2.out; rw [up_stop (bang W.out) (by rw [a0.out]; exact bang HY.out) hxy] at G; exact G)
              go_wp2
              go_quiet ((go_at_call 245; first | exact less_quiet _ _ | exact less_quiet2 _ _))
              go_wp2
              have aE:=Lh ((Pq.mk' (P:=fun A=>partialIns ltInt a b s u.toNat A=T) a1.out J.out a4 a3.out).drewN nq)
              clear W HY a3 a2 a1 HM a0 ac ad fx fy a4 v0 v1 v2 v3 aa w1 q5 q6 hxy J
              generalize wr.drewN nq=wx at aE ⊢
              go_roundw
              case rel=>first | exact ⟨u,j+1,by omega,by omega,by omega,rfl,by go_num,by rw [show 5 - (j+1)=s by omega]; exact aE.out⟩ | ((repeat apply Exists.intro); exact ⟨⟨u,j+1,by omega,by omega,by omega,rfl,by go_num,by rw [show 5 - (j+1)=s by omega]; exact aE.out⟩,rfl⟩)
              case measure=>simp [intOf] <;> omega
            ·have J:Hid (Pq g n (fun A=>partialIns ltInt a b s u.toNat A=T) w wr):=Lh (az.out.imp fun A _ G=>by rw [up_end (by omega)] at G; exact G)
             clear az
             go_wp2
             go_roundw
             case rel=>first | exact ⟨u,j+1,by omega,by omega,by omega,rfl,by go_num,by rw [show 5 - (j+1)=s by omega]; exact J.out⟩ | ((repeat apply Exists.intro); exact ⟨⟨u,j+1,by omega,by omega,by omega,rfl,by go_num,by rw [show 5 - (j+1)=s by omega]; exact J.out⟩,rfl⟩)
             case measure=>simp [intOf] <;> omega
         ·have J:Hid (Pq g n (fun A=>partialIns ltInt a b s u.toNat (shiftUp ltInt b (u+1).toNat A)=T) w wr):=Lh (ax.out.imp fun A _ G=>by rw [down_end (show V1.toNat=0 by omega)] at G; exact G)
          clear ax
          go_wp2
          go_loopw [10] (fun sv wq=>∃ a5:Int,u+1≤a5∧a5≤(b:Int)∧sv=.int .i64 a5∧Hid (Pq g n (fun A=>partialIns ltInt a b s u.toNat (shiftUp ltInt b (a5).toNat A)=T) w wq)) (fun sv _=>((b:Int) - intOf sv).toNat)
          case atStart=>exact ⟨u+1,by omega,by omega,by first | rfl | go_num,J⟩
          case round=>
           obtain ⟨a5,aJ,aP,rfl,av⟩:=hrel
           by_cases hvt:a5 < (b:Int)
           ·obtain ⟨m,hm⟩:=Int.eq_ofNat_of_zero_le (show 0≤a5 - 1 by omega)
            have v0:0≤a5:=by omega
            have v1:a5 < (n:Int):=by omega
            have v2:(0:Int)≤(m:Int):=by omega
            have v3:(m:Int) < (n:Int):=by omega
            have aa:a5.toNat≠m:=by omega
            have w1:IntKind.i64.wrap (a5 - 1)=(m:Int):=by rw [hm]; exact IntWalk.i64_in _ (by omega)
            obtain ⟨d1,a8,a7,N,a4⟩:=av.out
            obtain ⟨x,hx,ac⟩:=N.get (show a5.toNat < n by omega)
            obtain ⟨y,hy,ad⟩:=N.get (show m < n by omega)
            have fx:=N.free a5.toNat (by omega)
            have fy:=N.free m (by omega)
            have W:=Lh hx
            have HY:=Lh hy
            have a3:=Lh N
            have a2:=Lh a7
            have a1:=Lh a8
            have HM:=Lh hm
            have a0:Hid (a5.toNat=m+1):=Lh (by omega)
            clear hx hy N a7 hm a8 av
            by_cases hxy:x < y
            ·have q5:decide (x < y)=true:=by simpa using hxy
             have J:Hid (partialIns ltInt a b s u.toNat (shiftUp ltInt b (a5+1).toNat (swp d1 a5.toNat m))=T):=Lh (by have G:=a2.out; rw [up_go (by omega) (bang W.out) (by rw [a0.out]; exact bang HY.out) hxy] at G; rw [show (a5+1).toNat=a5.toNat+1 by omega]; rw [show a5.toNat - 1=m by have:=a0.out; omega] at G; exact G)
             go_wp2
             go_quiet ((go_at_call 245; first | exact less_quiet _ _ | exact less_quiet2 _ _))
             go_wp2
             go_region
             go_wp2
             go_roundw
             case rel=>exact ⟨a5+1,by have:=HM.out; omega,by have:=HM.out; omega,by first | rfl | go_num,Pq.swap a1.out (a4.trans (grown_drewN _ _ _)) (a3.out.drewN _) W.out HY.out 1 rfl J.out⟩
             case measure=>simp [intOf]; have:=HM.out; omega
            ·have q5:decide (x < y)=false:=by simpa using hxy
             have q6:y≤x:=by omega
             have J:Hid (partialIns ltInt a b s u.toNat d1=T):=Lh (by have G:=a2.out; rw [up_stop (bang W.out) (by rw [a0.out]; exact bang HY.out) hxy] at G; exact G)
             go_wp2
             go_quiet ((go_at_call 245; first | exact less_quiet _ _ | exact less_quiet2 _ _))
             go_wp2
             have aB:=Lh ((Pq.mk' (P:=fun A=>partialIns ltInt a b s u.toNat A=T) a1.out J.out a4 a3.out).drewN nq)
             clear W HY a3 a2 a1 HM a0 ac ad fx fy a4 v0 v1 v2 v3 aa w1 q5 q6 hxy J
             generalize wr.drewN nq=wx at aB ⊢
             go_roundw
             case rel=>first | exact ⟨u,j+1,by omega,by omega,by omega,rfl,by go_num,by rw [show 5 - (j+1)=s by omega]; exact aB.out⟩ | ((repeat apply Exists.intro); exact ⟨⟨u,j+1,by omega,by omega,by omega,rfl,by go_num,by rw [show 5 - (j+1)=s by omega]; exact aB.out⟩,rfl⟩)
             case measure=>simp [intOf] <;> omega
           ·have J:Hid (Pq g n (fun A=>partialIns ltInt a b s u.toNat A=T) w wr):=Lh (av.out.imp fun A _ G=>by rw [up_end (by omega)] at G; exact G)
            clear av
            go_wp2
            go_roundw
            case rel=>first | exact ⟨u,j+1,by omega,by omega,by omega,rfl,by go_num,by rw [show 5 - (j+1)=s by omega]; exact J.out⟩ | ((repeat apply Exists.intro); exact ⟨⟨u,j+1,by omega,by omega,by omega,rfl,by go_num,by rw [show 5 - (j+1)=s by omega]; exact J.out⟩,rfl⟩)
            case measure=>simp [intOf] <;> omega
       ·have J:Hid (partialIns ltInt a b s u.toNat (shiftDown ltInt m (swp d1 u.toNat m))=T):=Lh (by
         have G:=af.out
         unfold Go.Sort.fixUp Go.Sort.fixDown at G
         rw [if_neg (by omega),if_pos (by omega)] at G
         rw [show u.toNat - 1=m by have:=a0.out; omega] at G; exact G)
        go_wp2
        have ae:=Lh (Pq.swap (Q:=fun A=>partialIns ltInt a b s u.toNat (shiftDown ltInt m A)=T) a1.out ag.out ah.out W.out HY.out 1 rfl J.out)
        have ai:=HM
        clear W HY ah ag a2 a1 HM a0 af J ar au ao aq v0 v1 v2 v3 aa w1 q5 qg qe hxy
        generalize ((wx.drew.setCell ⟨g,u.toNat,none⟩ (.int .u64 y)).setCell ⟨g,m,none⟩ (.int .u64 x))=wy at ae ⊢
        go_loopw [9] (fun sv wq=>∃ a9:Int,0≤a9∧a9 < (b:Int)∧sv=.int .i64 a9∧Hid (Pq g n (fun A=>partialIns ltInt a b s u.toNat (shiftDown ltInt (a9).toNat A)=T) w wq)) (fun sv _=>(intOf sv).toNat)
        case atStart=>exact ⟨(m:Int),by have:=ai.out; omega,by have:=ai.out; omega,by first | rfl | go_num,by rw [show ((m:Int)).toNat=m from rfl]; exact ae⟩
        case round=>
         obtain ⟨a9,aK,aQ,rfl,aw⟩:=hrel
         by_cases hvt:1≤a9
         ·obtain ⟨m,hm⟩:=Int.eq_ofNat_of_zero_le (show 0≤a9 - 1 by omega)
          have v0:0≤a9:=by omega
          have v1:a9 < (n:Int):=by omega
          have v2:(0:Int)≤(m:Int):=by omega
          have v3:(m:Int) < (n:Int):=by omega
          have aa:a9.toNat≠m:=by omega
          have w1:IntKind.i64.wrap (a9 - 1)=(m:Int):=by rw [hm]; exact IntWalk.i64_in _ (by omega)
          obtain ⟨d1,a8,a7,N,a4⟩:=aw.out
          obtain ⟨x,hx,ac⟩:=N.get (show a9.toNat < n by omega)
          obtain ⟨y,hy,ad⟩:=N.get (show m < n by omega)
          have fx:=N.free a9.toNat (by omega)
          have fy:=N.free m (by omega)
          have W:=Lh hx
          have HY:=Lh hy
          have a3:=Lh N
          have a2:=Lh a7
          have a1:=Lh a8
          have HM:=Lh hm
          have a0:Hid (a9.toNat=m+1):=Lh (by omega)
          clear hx hy N a7 hm a8 aw
          by_cases hxy:x < y
          ·have q5:decide (x < y)=true:=by simpa using hxy
           have J:Hid (partialIns ltInt a b s u.toNat (shiftDown ltInt ((m:Int)).toNat (swp d1 a9.toNat m))=T):=Lh (by have G:=a2.out; rw [down_go a0.out (bang W.out) (bang HY.out) hxy] at G; exact G)
           go_wp2
           go_quiet ((go_at_call 245; first | exact less_quiet _ _ | exact less_quiet2 _ _))
           go_wp2
           go_region
           go_wp2
           go_roundw
           case rel=>exact ⟨(m:Int),by have:=HM.out; omega,by have:=HM.out; omega,by first | rfl | go_num,Pq.swap a1.out (a4.trans (grown_drewN _ _ _)) (a3.out.drewN _) W.out HY.out 1 rfl J.out⟩
           case measure=>simp [intOf]; have:=HM.out; omega
          ·have q5:decide (x < y)=false:=by simpa using hxy
           have q6:y≤x:=by omega
           have J:Hid (partialIns ltInt a b s u.toNat d1=T):=Lh (by have G:=a2.out; rw [down_stop a0.out (bang W.out) (bang HY.out) hxy] at G; exact G)
           go_wp2
           go_quiet ((go_at_call 245; first | exact less_quiet _ _ | exact less_quiet2 _ _))
           go_wp2
           have aC:=Lh ((Pq.mk' (P:=fun A=>partialIns ltInt a b s u.toNat A=T) a1.out J.out a4 a3.out).drewN nq)
           clear W HY a3 a2 a1 HM a0 ac ad fx fy a4 v0 v1 v2 v3 aa w1 q5 q6 hxy J
           generalize wr.drewN nq=wx at aC ⊢
           go_roundw
           case rel=>first | exact ⟨u,j+1,by omega,by omega,by omega,rfl,by go_num,by rw [show 5 - (j+1)=s by omega]; exact aC.out⟩ | ((repeat apply Exists.intro); exact ⟨⟨u,j+1,by omega,by omega,by omega,rfl,by go_num,by rw [show 5 - (j+1)=s by omega]; exact aC.out⟩,rfl⟩)
           case measure=>simp [intOf] <;> omega
         ·have J:Hid (Pq g n (fun A=>partialIns ltInt a b s u.toNat A=T) w wr):=Lh (aw.out.imp fun A _ G=>by rw [down_end (show a9.toNat=0 by omega)] at G; exact G)
          clear aw
          go_wp2
          go_roundw
          case rel=>first | exact ⟨u,j+1,by omega,by omega,by omega,rfl,by go_num,by rw [show 5 - (j+1)=s by omega]; exact J.out⟩ | ((repeat apply Exists.intro); exact ⟨⟨u,j+1,by omega,by omega,by omega,rfl,by go_num,by rw [show 5 - (j+1)=s by omega]; exact J.out⟩,rfl⟩)
          case measure=>simp [intOf] <;> omega
       ·have J:Hid (partialIns ltInt a b s u.toNat (shiftUp ltInt b (u+1).toNat (swp d1 u.toNat m))=T):=Lh (by
         have G:=af.out
         unfold Go.Sort.fixUp Go.Sort.fixDown at G
         rw [if_pos (by omega),if_neg (by omega)] at G
         rw [show u.toNat - 1=m by have:=a0.out; omega] at G; rw [show (u+1).toNat=u.toNat+1 by omega]; exact G)
        go_wp2
        have ae:=Lh (Pq.swap (Q:=fun A=>partialIns ltInt a b s u.toNat (shiftUp ltInt b (u+1).toNat A)=T) a1.out ag.out ah.out W.out HY.out 1 rfl J.out)
        have ai:=HM
        clear W HY ah ag a2 a1 HM a0 af J ar au ao aq v0 v1 v2 v3 aa w1 q5 qg qe hxy
        generalize ((wx.drew.setCell ⟨g,u.toNat,none⟩ (.int .u64 y)).setCell ⟨g,m,none⟩ (.int .u64 x))=wy at ae ⊢
        go_loopw [10] (fun sv wq=>∃ a6:Int,u+1≤a6∧a6≤(b:Int)∧sv=.int .i64 a6∧Hid (Pq g n (fun A=>partialIns ltInt a b s u.toNat (shiftUp ltInt b (a6).toNat A)=T) w wq)) (fun sv _=>((b:Int) - intOf sv).toNat)
        case atStart=>exact ⟨u+1,by omega,by omega,by first | rfl | go_num,ae⟩
        case round=>
         obtain ⟨a6,aL,aR,rfl,ay⟩:=hrel
         by_cases hvt:a6 < (b:Int)
         ·obtain ⟨m,hm⟩:=Int.eq_ofNat_of_zero_le (show 0≤a6 - 1 by omega)
          have v0:0≤a6:=by omega
          have v1:a6 < (n:Int):=by omega
          have v2:(0:Int)≤(m:Int):=by omega
          have v3:(m:Int) < (n:Int):=by omega
          have aa:a6.toNat≠m:=by omega
          have w1:IntKind.i64.wrap (a6 - 1)=(m:Int):=by rw [hm]; exact IntWalk.i64_in _ (by omega)
          obtain ⟨d1,a8,a7,N,a4⟩:=ay.out
          obtain ⟨x,hx,ac⟩:=N.get (show a6.toNat < n by omega)
          obtain ⟨y,hy,ad⟩:=N.get (show m < n by omega)
          have fx:=N.free a6.toNat (by omega)
          have fy:=N.free m (by omega)
          have W:=Lh hx
          have HY:=Lh hy
          have a3:=Lh N
          have a2:=Lh a7
          have a1:=Lh a8
          have HM:=Lh hm
          have a0:Hid (a6.toNat=m+1):=Lh (by omega)
          clear hx hy N a7 hm a8 ay
          by_cases hxy:x < y
          ·have q5:decide (x < y)=true:=by simpa using hxy
           have J:Hid (partialIns ltInt a b s u.toNat (shiftUp ltInt b (a6+1).toNat (swp d1 a6.toNat m))=T):=Lh (by have G:=a2.out; rw [up_go (by omega) (bang W.out) (by rw [a0.out]; exact bang HY.out) hxy] at G; rw [show (a6+1).toNat=a6.toNat+1 by omega]; rw [show a6.toNat - 1=m by have:=a0.out; omega] at G; exact G)
           go_wp2
           go_quiet ((go_at_call 245; first | exact less_quiet _ _ | exact less_quiet2 _ _))
           go_wp2
           go_region
           go_wp2
           go_roundw
           case rel=>exact ⟨a6+1,by have:=HM.out; omega,by have:=HM.out; omega,by first | rfl | go_num,Pq.swap a1.out (a4.trans (grown_drewN _ _ _)) (a3.out.drewN _) W.out HY.out 1 rfl J.out⟩
           case measure=>simp [intOf]; have:=HM.out; omega
          ·have q5:decide (x < y)=false:=by simpa using hxy
           have q6:y≤x:=by omega
           have J:Hid (partialIns ltInt a b s u.toNat d1=T):=Lh (by have G:=a2.out; rw [up_stop (bang W.out) (by rw [a0.out]; exact bang HY.out) hxy] at G; exact G)
           go_wp2
           go_quiet ((go_at_call 245; first | exact less_quiet _ _ | exact less_quiet2 _ _))
           go_wp2
           have aD:=Lh ((Pq.mk' (P:=fun A=>partialIns ltInt a b s u.toNat A=T) a1.out J.out a4 a3.out).drewN nq)
           clear W HY a3 a2 a1 HM a0 ac ad fx fy a4 v0 v1 v2 v3 aa w1 q5 q6 hxy J
           generalize wr.drewN nq=wx at aD ⊢
           go_roundw
           case rel=>first | exact ⟨u,j+1,by omega,by omega,by omega,rfl,by go_num,by rw [show 5 - (j+1)=s by omega]; exact aD.out⟩ | ((repeat apply Exists.intro); exact ⟨⟨u,j+1,by omega,by omega,by omega,rfl,by go_num,by rw [show 5 - (j+1)=s by omega]; exact aD.out⟩,rfl⟩)
           case measure=>simp [intOf] <;> omega
         ·have J:Hid (Pq g n (fun A=>partialIns ltInt a b s u.toNat A=T) w wr):=Lh (ay.out.imp fun A _ G=>by rw [up_end (by omega)] at G; exact G)
          clear ay
          go_wp2
          go_roundw
          case rel=>first | exact ⟨u,j+1,by omega,by omega,by omega,rfl,by go_num,by rw [show 5 - (j+1)=s by omega]; exact J.out⟩ | ((repeat apply Exists.intro); exact ⟨⟨u,j+1,by omega,by omega,by omega,rfl,by go_num,by rw [show 5 - (j+1)=s by omega]; exact J.out⟩,rfl⟩)
          case measure=>simp [intOf] <;> omega
       ·have J:Hid (partialIns ltInt a b s u.toNat (swp d1 u.toNat m)=T):=Lh (by
         have G:=af.out
         unfold Go.Sort.fixUp Go.Sort.fixDown at G
         rw [if_neg (by omega),if_neg (by omega)] at G
         rw [show u.toNat - 1=m by have:=a0.out; omega] at G; exact G)
        go_wp2
        have ae:=Lh (Pq.swap (Q:=fun A=>partialIns ltInt a b s u.toNat A=T) a1.out ag.out ah.out W.out HY.out 1 rfl J.out)
        have ai:=HM
        clear W HY ah ag a2 a1 HM a0 af J ar au ao aq v0 v1 v2 v3 aa w1 q5 qg qe hxy
        generalize ((wx.drew.setCell ⟨g,u.toNat,none⟩ (.int .u64 y)).setCell ⟨g,m,none⟩ (.int .u64 x))=wy at ae ⊢
        go_roundw
        case rel=>first | exact ⟨u,j+1,by omega,by omega,by omega,rfl,by go_num,by rw [show 5 - (j+1)=s by omega]; exact ae.out⟩ | ((repeat apply Exists.intro); exact ⟨⟨u,j+1,by omega,by omega,by omega,rfl,by go_num,by rw [show 5 - (j+1)=s by omega]; exact ae.out⟩,rfl⟩)
        case measure=>simp [intOf] <;> omega
     ·have q5:decide (x < y)=false:=by simpa using hxy
      have q6:y≤x:=by omega
      have J:Hid (Pq g n (fun A=>partialIns ltInt a b (s+1) (u+1).toNat A=T) w wr):=Lh (Pq.mk' a1.out (by
       have G:=a2.out
       rw [pins_up (by omega) (bang W.out) an.out hxy] at G
       rw [show (u+1).toNat=u.toNat+1 by omega]; exact G) a4 a3.out)
      go_wp2
      go_quiet ((go_at_call 245; first | exact less_quiet _ _ | exact less_quiet2 _ _))
      go_wp2
      go_roundw
      case rel=>first | exact ⟨u+1,by omega,by omega,by go_num,J.out.drewN _⟩ | ((repeat apply Exists.intro); exact ⟨⟨u+1,by omega,by omega,by go_num,J.out.drewN _⟩,rfl⟩)
      case measure=>simp [intOf] <;> omega
    ·have qg:decide (u < (b:Int))=false:=by simpa using hib
     obtain rfl:u=(b:Int):=by omega
     have J:Hid (Pq g n (fun A=>PermIn a b D A∧SortedIn ltInt a b A) w wr):=Lh (aA.out.imp fun A _ G=>by
      rw [show ((b:Int)).toNat=b from rfl,pins_end] at G
      have h8:=al.out
      rw [← G] at h8
      exact ⟨h8.1,h8.2 rfl⟩)
     clear aA
     go_wp2
     go_quiet (fail)
     go_wp2
     go_ret
     exact ⟨true,rfl,(J.out.imp fun A _ h=>⟨h.1,fun _=>h.2⟩).drewN _⟩
  ·have J:Hid (Pq g n (fun A=>PermIn a b D A∧(false=true→SortedIn ltInt a b A)) w wr):=Lh (ak.out.imp fun A _ G=>by
    rw [show 5 - j=0 by omega,partialIns] at G
    have h8:=al.out.1
    rw [← G] at h8
    exact ⟨h8,fun e=>by cases e⟩)
   clear ak
   go_wp2
   go_ret
   exact ⟨false,rfl,J.out⟩
end Go.Proofs.YtaeemilldmhbnaaGreatDoor.So
namespace Go.Proofs.YtaeemilldmhbnaaGreatDoor.So
open Go.ChangeShapes Go.WideShapes Go.ChangeAt Go.RowKit Rw
theorem pivot_srt (g n c:Nat) (d:List Int) (a b:Nat) (w:World) (h:Row w g n d) (a5:a+12 < b) (hb:b≤n) (hn:n≤1152921504606846976) :
  Calls Tryz.prog 242 #[.slice (some ⟨g,0,none⟩) n c,.int .i64 a,.int .i64 b] w (Piv a b (fun w'=>Row w' g n d∧w.grownBy w' (some g))):=by
 have a2:=h.lt (by omega)
 have HR:=Lh h
 clear h
 obtain ⟨q,hq⟩:∃ q:Nat,b=a+q:=⟨b - a,by omega⟩
 obtain ⟨t,ht⟩:∃ t:Nat,t=q / 4:=⟨_,rfl⟩
 have e1:(b:Int) - (a:Int)=(q:Int):=by omega
 have e2:(q:Int) / 4=(t:Int):=by omega
 have aa:3≤t:=by omega
 have ac:t * 4≤q:=by omega
 have a1:a+q=b:=by omega
 have u:=Lh a1
 clear hq ht a1
 have a6:a+q≤n:=by have:=u.out; omega
 have ra:Row (w.alloc (.cells #[.int .i64 0] 3)) g n d:=⟨HR.out.len,fun j x hx=>alloc_cell (HR.out.cell j x hx) _,fun j hj=>alloc_frozen (HR.out.free j hj) a2 _⟩
 have sc:∃ k:Int,(w.alloc (.cells #[.int .i64 0] 3)).cell? ⟨w.heap.size,0,none⟩=some (.int .i64 k):=⟨0,by go_simp⟩
 have sf:(w.alloc (.cells #[.int .i64 0] 3)).frozen? ⟨w.heap.size,0,none⟩=false:=by go_simp
 have a0:w.heap.size≠g:=by omega
 have RA:=Lh ra
 have SC:=Lh sc
 have SF:=Lh sf
 have J:=Lh a0
 clear ra sc sf a0
 by_cases h50:50≤q
 ·go_enter Tryz.func242,Tryz.ntmps242
  go_wp2_with fail
  rw [show (a:Int)+(t:Int)=((a+t:Nat):Int) by omega]
  refine (adjacent_any g n c w.heap.size d (a+t) _ RA.out (by omega) (by omega) hn SC.out SF.out J.out).mono ?_
  rintro e w1 ⟨r1,rfl,a7,h1⟩
  have H1:=Lh h1
  clear h1
  go_wp2_with fail
  rw [show (a:Int)+(t:Int) * 2=((a+t * 2:Nat):Int) by omega]
  refine (adjacent_any g n c w.heap.size d (a+t * 2) _ H1.out.row (by omega) (by omega) hn H1.out.cell H1.out.free J.out).mono ?_
  rintro e w2 ⟨r2,rfl,a8,h2⟩
  have H2:=Lh h2
  clear h2
  go_wp2_with fail
  rw [show (a:Int)+(t:Int) * 3=((a+t * 3:Nat):Int) by omega]
  refine (adjacent_any g n c w.heap.size d (a+t * 3) _ H2.out.row (by omega) (by omega) hn H2.out.cell H2.out.free J.out).mono ?_
  rintro e w3 ⟨r3,rfl,a9,h3⟩
  have H3:=Lh h3
  clear h3
  go_wp2_with fail
  refine (median_any g n c w.heap.size d r1 r2 r3 _ H3.out.row (by omega) (by omega) (by omega) hn H3.out.cell H3.out.free J.out).mono ?_
  rintro e N ⟨r,rfl,hr,W⟩
  have I:=Lh (((H1.out.trans H2.out).trans H3.out).trans W); clear W
  obtain ⟨k,hk⟩:=I.out.cell
  have hP:Row N g n d∧w.grownBy N (some g):=⟨I.out.row,grown_new I.out.grown _⟩
  have G:=Lh hP
  clear hP
  by_cases k0:k=0
  ·subst k0
   go_wp2_with fail
   go_ret2
   exact ⟨r,1,rfl,by have:=u.out; omega,by have:=u.out; omega,by omega,G.out⟩
  ·have q0:(k == 0)=false:=by simpa using k0
   by_cases k12:k=12
   ·subst k12
    go_wp2_with fail
    go_ret2
    exact ⟨r,2,rfl,by have:=u.out; omega,by have:=u.out; omega,by omega,G.out⟩
   ·have a3:(k == 12)=false:=by simpa using k12
    go_wp2_with fail
    go_ret2
    exact ⟨r,0,rfl,by have:=u.out; omega,by have:=u.out; omega,by omega,G.out⟩
 ·have a4:q < 50:=by omega
  go_enter Tryz.func242,Tryz.ntmps242
  go_wp2_with fail
  rw [show (a:Int)+(t:Int)=((a+t:Nat):Int) by omega,show (a:Int)+(t:Int) * 2=((a+t * 2:Nat):Int) by omega,show (a:Int)+(t:Int) * 3=((a+t * 3:Nat):Int) by omega]
  refine (median_any g n c w.heap.size d (a+t) (a+t * 2) (a+t * 3) _ RA.out (by omega) (by omega) (by omega) hn SC.out SF.out J.out).mono ?_
  rintro e N ⟨r,rfl,hr,W⟩
  have I:=Lh W; clear W
  obtain ⟨k,hk⟩:=I.out.cell
  have hP:Row N g n d∧w.grownBy N (some g):=⟨I.out.row,grown_new I.out.grown _⟩
  have G:=Lh hP
  clear hP
  by_cases k0:k=0
  ·subst k0
   go_wp2_with fail
   go_ret2
   exact ⟨r,1,rfl,by have:=u.out; omega,by have:=u.out; omega,by omega,G.out⟩
  ·have q0:(k == 0)=false:=by simpa using k0
   by_cases k12:k=12
   ·subst k12
    go_wp2_with fail
    go_ret2
    exact ⟨r,2,rfl,by have:=u.out; omega,by have:=u.out; omega,by omega,G.out⟩
   ·have a3:(k == 12)=false:=by simpa using k12
    go_wp2_with fail
    go_ret2
    exact ⟨r,0,rfl,by have:=u.out; omega,by have:=u.out; omega,by omega,G.out⟩
end Go.Proofs.YtaeemilldmhbnaaGreatDoor.So
namespace Go.Proofs.YtaeemilldmhbnaaGreatDoor.So
open Go.ChangeShapes Go.WideShapes Go.ChangeAt Go.RowKit Rw
open Go.Sort (swp ltInt PermIn SortedIn)
def Sq (g n rb:Nat) (P:Array Int→Prop) (w w':World):Prop:=∃ (A:Array Int) (v:Int),A.size=n∧P A∧Row w' g n A.toList∧w'.cell? ⟨rb,0,none⟩=some (.int .u64 v)∧w'.frozen? ⟨rb,0,none⟩=false∧w.grownBy w' (some g)
theorem Sq.of {g n u:Nat} {P:Array Int→Prop} {w G N:World} {v:Int} (h:Pq g n P G N) (hg:w.grownBy G (some g)) (hc:G.cell? ⟨u,0,none⟩=some (.int .u64 v)) (hf:G.frozen? ⟨u,0,none⟩=false) (J:u≠g):Sq g n u P w N:=by
 obtain ⟨A,W,h1,h2,I⟩:=h
 exact ⟨A,v,W,h1,h2,I.cell hc (by simp; exact J),grown_frozen I hf (Lw.lt_heap hc) (by simp; exact J),hg.trans I⟩
theorem reverse_srt (g n c:Nat) (D:Array Int) (a b:Nat) (w:World) (W:D.size=n) (h:Row w g n D.toList) (ha:a≤b) (hb:b≤n) (hn:n≤9223372036854775807) :
  Calls Tryz.prog 243 #[.slice (some ⟨g,0,none⟩) n c,.int .i64 a,.int .i64 b] w fun e w'=>e=.returned (.tuple #[])∧Pq g n (fun A=>PermIn a b D A) w w':=by
 have HR:Hid (Pq g n (fun A=>PermIn a b D A) w w):=Lh (Pq.start W (Go.Sort.permIn_refl D a b) h)
 clear h W
 go_enter Tryz.func243,Tryz.ntmps243
 go_wp2
 go_loopw [6,7] (fun J N wr=>∃ (i:Nat) (j:Int),a≤i∧i≤n ∧ -1≤j∧j < b∧J=.int .i64 i∧N=.int .i64 j∧Hid (Pq g n (fun A=>PermIn a b D A) w wr)) (fun J N _=>(intOf N - intOf J).toNat)
 case atStart=>exact ⟨a,(b:Int) - 1,by omega,by omega,by omega,by omega,rfl,rfl,HR.out⟩
 case round=>
  obtain ⟨i,j,a4,hi,aa,ac,rfl,rfl,I⟩:=hrel
  by_cases hlt:(i:Int) < j
  ·obtain ⟨m,rfl⟩:=Int.eq_ofNat_of_zero_le (show 0≤j by omega)
   have a9:i < m:=by omega
   have a0:m < n:=by omega
   obtain ⟨d1,a1,G,u,a5⟩:=I.out
   have HQ:Hid (PermIn a b D (swp d1 i m)):=Lh (Go.Sort.permIn_trans _ _ _ _ _ G (Go.Sort.swp_permIn d1 a b i m a4 (by omega) (by omega) (by omega) (by omega)))
   have a3:=Lh a1
   obtain ⟨x,hx,a7⟩:=u.get (show i < n by omega)
   obtain ⟨y,hy,a8⟩:=u.get a0
   have fx:=u.free i (by omega)
   have fy:=u.free m a0
   have HX:=Lh hx
   have HY:=Lh hy
   have a2:=Lh u
   have a6:=Lh G
   clear hx hy u G I a1
   have b0:(0:Int)≤(i:Int):=by omega
   have b1:(i:Int) < (n:Int):=by omega
   have b2:(0:Int)≤(m:Int):=by omega
   have b3:(m:Int) < (n:Int):=by omega
   have ad:i≠m:=by omega
   go_wp2
   go_region
   go_wp2
   go_roundw
   case rel=>exact ⟨i+1,(m:Int) - 1,by omega,by omega,by omega,by omega,by go_num,rfl,Pq.swap a3.out a5 a2.out HX.out HY.out 1 rfl HQ.out⟩
   case measure=>simp [intOf]; omega
  ·go_wp2
   go_end0
   exact ⟨rfl,I.out⟩
theorem break_srt (g n c:Nat) (D:Array Int) (a b:Nat) (w:World) (hD:D.size=n) (h:Row w g n D.toList) (aA:a+12 < b) (hb:b≤n) (hn:n≤200) :
  Calls Tryz.prog 241 #[.slice (some ⟨g,0,none⟩) n c,.int .i64 a,.int .i64 b] w fun e w'=>e=.returned (.tuple #[])∧Pq g n (fun A=>PermIn a b D A) w w':=by
 have aq:=h.lt (by omega)
 have HR:=Lh h
 clear h
 obtain ⟨q,hq⟩:∃ q:Nat,b=a+q:=⟨b - a,by omega⟩
 obtain ⟨t,ht⟩:∃ t:Nat,t=q / 4:=⟨_,rfl⟩
 have e1:(b:Int) - (a:Int)=(q:Int):=by omega
 have e2:(q:Int) / 4=(t:Int):=by omega
 have aI:3≤t:=by omega
 have aJ:t * 4≤q:=by omega
 have aH:a+q≤n:=by omega
 have aF:8≤q:=by omega
 have aG:a+q≤b:=by omega
 clear hq ht
 go_enter Tryz.func241,Tryz.ntmps241
 go_wp2_with fail
 refine (next_any q _ (by omega) (by omega)).mono ?_
 rintro e w1 ⟨M,rfl,ay,az,rfl⟩
 have al:Sq g n w.heap.size (fun A=>PermIn a b D A) w (w.alloc (.cells #[.int .u64 q] 331)):=
  ⟨D,q,hD,Go.Sort.permIn_refl D a b,⟨HR.out.len,fun j x hx=>alloc_cell (HR.out.cell j x hx) _,fun j hj=>alloc_frozen (HR.out.free j hj) aq _⟩,by go_simp,by go_simp,World.grownBy_alloc w _ _⟩
 have ak:=Lh al
 have a0:w.heap.size≠g:=by omega
 clear al hD
 go_wp2_with fail
 go_loopw [9,10] (fun si _ wr=>∃ I:Int,(a:Int)+t * 2 - 1≤I∧I≤(a:Int)+t * 2+2∧si=.int .i64 I∧Hid (Sq g n w.heap.size (fun A=>PermIn a b D A) w wr)) (fun si _ _=>((a:Int)+t * 2+2 - intOf si).toNat)
 case atStart=>exact ⟨_,by omega,by omega,rfl,ak⟩
 case round=>
  clear ak
  obtain ⟨I,aw,ax,rfl,ae⟩:=hrel
  by_cases hlt:I≤(a:Int)+t * 2+1
  ·obtain ⟨d1,v,a9,a8,a5,ac,ad,a7⟩:=ae.out
   have aj:=Lh a5
   have aa:=Lh a8
   have a2:=Lh a9
   have ai:=Lh a7
   have ar:g < wr.heap.size:=a5.lt (by omega)
   clear a5 a8 a7 ae a9
   go_wp2_with fail
   refine (xor_any w.heap.size v _ ac ad).mono ?_
   rintro e w2 ⟨v2,rfl,av,a3,a4,ag⟩
   have G:=aj.out.grown ag (fun e=>a0 e.symm) ar
   have a1:=Lh (grown_via ai.out ag (Nat.le_refl _))
   obtain ⟨o,ho⟩:∃ o:Nat,o=v2 &&& (M - 1):=⟨_,rfl⟩
   have aD:o≤M - 1:=by rw [ho]; exact Nat.and_le_right
   have aB:bits .and .u64 (v2:Int) ((M:Int) - 1)=(o:Int):=by
    rw [show (M:Int) - 1=((M - 1:Nat):Int) by omega,bits_and_u64_nat _ _ av (by omega),ho]
   clear ho ac ad ag aj ai
   by_cases hoq:q≤o
   ·obtain ⟨u,aC⟩:∃ u:Nat,o=q+u:=⟨o - q,by omega⟩
    have e3:(o:Int) - (q:Int)=(u:Int):=by omega
    have ho:u < q:=by omega
    have w1:IntKind.i64.wrap ((a:Int)+(u:Int))=(a:Int)+(u:Int):=IntWalk.i64_in _ (by omega)
    have t1:((a:Int)+(u:Int)).toNat=a+u:=by omega
    have s0:(0:Int)≤I:=by omega
    have s1:I < (n:Int):=by omega
    have s2:(0:Int)≤(a:Int)+(u:Int):=by omega
    have s3:(a:Int)+(u:Int) < (n:Int):=by omega
    obtain ⟨x,hx,af⟩:=G.get (show I.toNat < n by omega)
    obtain ⟨y,hy,ao⟩:=G.get (show a+u < n by omega)
    have fx:=G.free I.toNat (by omega)
    have fy:=G.free (a+u) (by omega)
    have J:=Lh hx
    have HY:=Lh hy
    have a6:=Lh G
    clear hx hy G
    by_cases hsame:I.toNat=a+u
    ·rw [hsame] at af fx J
     have ah:x=y:=by have W:=J.out; have h2:=HY.out; rw [h2] at W; injection W with W; exact W.symm
     subst ah
     go_wp2
     go_region
     go_wp2
     have HQ:Hid (PermIn a b D (swp d1 (a+u) (a+u))):=Lh (Go.Sort.permIn_trans _ _ _ _ _ aa.out (Go.Sort.swp_permIn d1 a b (a+u) (a+u) (by omega) (by omega) (by omega) (by omega) (by rw [a2.out]; omega)))
     have N:=Lh (Pq.swap (Q:=fun A=>PermIn a b D A) a2.out (World.grownBy.refl _ _) a6.out J.out J.out 1 rfl HQ.out)
     clear hsame
     go_roundw
     case rel=>first | exact ⟨I+1,by omega,by omega,by go_num,Sq.of N.out a1.out a3 a4 a0⟩ | ((repeat apply Exists.intro); exact ⟨⟨I+1,by omega,by omega,by go_num,Sq.of N.out a1.out a3 a4 a0⟩,rfl⟩)
     case measure=>simp [intOf] <;> omega
    ·have au:¬ a+u=I.toNat:=fun e=>hsame e.symm
     go_wp2
     go_region
     go_wp2
     have HQ:Hid (PermIn a b D (swp d1 I.toNat (a+u))):=Lh (Go.Sort.permIn_trans _ _ _ _ _ aa.out (Go.Sort.swp_permIn d1 a b I.toNat (a+u) (by omega) (by omega) (by omega) (by omega) (by rw [a2.out]; omega)))
     have N:=Lh (Pq.swap (Q:=fun A=>PermIn a b D A) a2.out (World.grownBy.refl _ _) a6.out J.out HY.out 1 rfl HQ.out)
     go_roundw
     case rel=>first | exact ⟨I+1,by omega,by omega,by go_num,Sq.of N.out a1.out a3 a4 a0⟩ | ((repeat apply Exists.intro); exact ⟨⟨I+1,by omega,by omega,by go_num,Sq.of N.out a1.out a3 a4 a0⟩,rfl⟩)
     case measure=>simp [intOf] <;> omega
   ·have aE:o < q:=by omega
    have ho:o < q:=by omega
    have w1:IntKind.i64.wrap ((a:Int)+(o:Int))=(a:Int)+(o:Int):=IntWalk.i64_in _ (by omega)
    have t1:((a:Int)+(o:Int)).toNat=a+o:=by omega
    have s0:(0:Int)≤I:=by omega
    have s1:I < (n:Int):=by omega
    have s2:(0:Int)≤(a:Int)+(o:Int):=by omega
    have s3:(a:Int)+(o:Int) < (n:Int):=by omega
    obtain ⟨x,hx,af⟩:=G.get (show I.toNat < n by omega)
    obtain ⟨y,hy,ao⟩:=G.get (show a+o < n by omega)
    have fx:=G.free I.toNat (by omega)
    have fy:=G.free (a+o) (by omega)
    have J:=Lh hx
    have HY:=Lh hy
    have a6:=Lh G
    clear hx hy G
    by_cases hsame:I.toNat=a+o
    ·rw [hsame] at af fx J
     have ah:x=y:=by have W:=J.out; have h2:=HY.out; rw [h2] at W; injection W with W; exact W.symm
     subst ah
     go_wp2
     go_region
     go_wp2
     have HQ:Hid (PermIn a b D (swp d1 (a+o) (a+o))):=Lh (Go.Sort.permIn_trans _ _ _ _ _ aa.out (Go.Sort.swp_permIn d1 a b (a+o) (a+o) (by omega) (by omega) (by omega) (by omega) (by rw [a2.out]; omega)))
     have N:=Lh (Pq.swap (Q:=fun A=>PermIn a b D A) a2.out (World.grownBy.refl _ _) a6.out J.out J.out 1 rfl HQ.out)
     clear hsame
     go_roundw
     case rel=>first | exact ⟨I+1,by omega,by omega,by go_num,Sq.of N.out a1.out a3 a4 a0⟩ | ((repeat apply Exists.intro); exact ⟨⟨I+1,by omega,by omega,by go_num,Sq.of N.out a1.out a3 a4 a0⟩,rfl⟩)
     case measure=>simp [intOf] <;> omega
    ·have au:¬ a+o=I.toNat:=fun e=>hsame e.symm
     go_wp2
     go_region
     go_wp2
     have HQ:Hid (PermIn a b D (swp d1 I.toNat (a+o))):=Lh (Go.Sort.permIn_trans _ _ _ _ _ aa.out (Go.Sort.swp_permIn d1 a b I.toNat (a+o) (by omega) (by omega) (by omega) (by omega) (by rw [a2.out]; omega)))
     have N:=Lh (Pq.swap (Q:=fun A=>PermIn a b D A) a2.out (World.grownBy.refl _ _) a6.out J.out HY.out 1 rfl HQ.out)
     go_roundw
     case rel=>first | exact ⟨I+1,by omega,by omega,by go_num,Sq.of N.out a1.out a3 a4 a0⟩ | ((repeat apply Exists.intro); exact ⟨⟨I+1,by omega,by omega,by go_num,Sq.of N.out a1.out a3 a4 a0⟩,rfl⟩)
     case measure=>simp [intOf] <;> omega
  ·obtain ⟨d1,v,a9,a8,a5,ac,ad,a7⟩:=ae.out
   have an:Hid (Pq g n (fun A=>PermIn a b D A) w wr):=⟨d1,a9,a8,a5,a7⟩
   clear a9 a8 a5 ac ad a7 ae
   go_wp2_with fail
   go_end0
   exact ⟨rfl,an.out⟩
end Go.Proofs.YtaeemilldmhbnaaGreatDoor.So
namespace Go.Proofs.YtaeemilldmhbnaaGreatDoor.So
open Go.ChangeShapes Go.WideShapes Go.ChangeAt Go.RowKit Rw
open Go.Sort (swp ltInt PermIn SortedIn swo_ltInt)
def Fin (D:Array Int) (a b A B:Nat) (X:Array Int):Prop:=∀ X',PermIn A B X X'→SortedIn ltInt A B X'→PermIn a b D X'∧SortedIn ltInt a b X'
section
variable {D X Y:Array Int} {a b A B r:Nat} {pv:Int}
theorem Fin.perm (h:Fin D a b A B X) (I:PermIn A B X Y):Fin D a b A B Y:=fun X' u G=>h X' (Go.Sort.permIn_trans _ _ _ _ _ I u) G
theorem bl_perm (h:Go.Sort.Below ltInt A B X) (u:B≤X.size) (G:PermIn A B X Y):Go.Sort.Below ltInt A B Y:=Go.Sort.Below.permA Go.Sort.permIn_all u h G
theorem bl_sub (h:Go.Sort.Below ltInt A B X) (I:r≤B):Go.Sort.Below ltInt A r X:=by
 rcases h with h | h
 ·exact .inl h
 ·exact .inr fun i u G=>h i u (by omega)
theorem nlt {x y:Int} (h:y≤x):ltInt x y=false:=decide_eq_false (by omega)
theorem ge_of {x y:Int} (h:ltInt x y=false):y≤x:=by have:=of_decide_eq_false h; omega
theorem fin_left (h:Fin D a b A B X) (u:Split Y A B pv r X) (hA:A≤r) (hr:r < B) (hB:B≤X.size) {Z:Array Int} (I:PermIn A r X Z) (h2:SortedIn ltInt A r Z):Fin D a b (r+1) B Z∧Go.Sort.Below ltInt (r+1) B Z:=by
 have z1:∀ k,A≤k→k < r→Z[k]! < pv:=Go.Sort.permIn_all X Z A r (fun v=>v < pv) (by omega) I (fun k k1 k2=>u.lo k k1 k2)
 have z2:∀ k,r≤k→Z[k]! = X[k]!:=fun k hk=>I.2.1 k (.inr hk)
 refine ⟨fun X' p s=>?_,.inr fun i i1 i2=>?_⟩
 ·have zs:Z.size=X.size:=I.1
  have G:∀ k,k < r+1→X'[k]! = Z[k]!:=fun k hk=>p.2.1 k (.inl hk)
  have W:∀ k,r+1≤k→k < B→pv≤X'[k]!:=Go.Sort.permIn_all Z X' (r+1) B (fun v=>pv≤v) (by omega) p (fun k k1 k2=>by rw [z2 k (by omega)]; exact u.hi k (by omega) k2)
  refine h X' (Go.Sort.permIn_trans _ _ _ _ _ (Go.Sort.permIn_mono _ _ _ _ _ _ (Nat.le_refl _) (by omega) hB I) (Go.Sort.permIn_mono _ _ _ _ _ _ (by omega) (Nat.le_refl _) (by omega) p)) fun i j hi J N=>nlt ?_
  by_cases c1:j < r
  ·rw [G i (by omega),G j (by omega)]
   exact ge_of (h2 i j hi J c1)
  ·by_cases c2:j=r
   ·subst c2
    rw [G i (by omega),G j (by omega),z2 j (Nat.le_refl _),u.piv]
    have:=z1 i hi J
    omega
   ·by_cases c3:i < r
    ·have:=z1 i hi c3
     have:=W j (by omega) N
     rw [G i (by omega)]; omega
    ·by_cases c4:i=r
     ·subst c4
      rw [G i (by omega),z2 i (Nat.le_refl _),u.piv]
      exact W j (by omega) N
     ·exact ge_of (s i j (by omega) J N)
 ·rw [show r+1 - 1=r by omega,z2 i (by omega),z2 r (Nat.le_refl _),u.piv]
  exact nlt (u.hi i (by omega) i2)
theorem bl_right (h:Split Y A B pv r X):Go.Sort.Below ltInt (r+1) B X:=.inr fun i G u=>by
 rw [show r+1 - 1=r by omega,h.piv]
 exact nlt (h.hi i (by omega) u)
theorem fin_right (h:Fin D a b A B X) (G:Go.Sort.Below ltInt A B X) (J:Split Y A B pv r X) (hA:A≤r) (hr:r < B) (hB:B≤X.size) {Z:Array Int} (I:PermIn (r+1) B X Z) (h2:SortedIn ltInt (r+1) B Z):Fin D a b A r Z∧Go.Sort.Below ltInt A r Z:=by
 have z1:∀ k,r+1≤k→k < B→pv≤Z[k]!:=Go.Sort.permIn_all X Z (r+1) B (fun v=>pv≤v) hB I (fun k k1 k2=>J.hi k (by omega) k2)
 have z2:∀ k,k < r+1→Z[k]! = X[k]!:=fun k hk=>I.2.1 k (.inl hk)
 have zs:Z.size=X.size:=I.1
 refine ⟨fun X' p s=>?_,?_⟩
 ·have u:∀ k,r≤k→X'[k]! = Z[k]!:=fun k hk=>p.2.1 k (.inr hk)
  have x2:∀ k,A≤k→k < r→X'[k]! < pv:=Go.Sort.permIn_all Z X' A r (fun v=>v < pv) (by omega) p (fun k k1 k2=>by rw [z2 k (by omega)]; exact J.lo k k1 k2)
  refine h X' (Go.Sort.permIn_trans _ _ _ _ _ (Go.Sort.permIn_mono _ _ _ _ _ _ (by omega) (Nat.le_refl _) hB I) (Go.Sort.permIn_mono _ _ _ _ _ _ (Nat.le_refl _) (by omega) (by omega) p)) fun i j hi N W=>nlt ?_
  by_cases c1:j < r
  ·exact ge_of (s i j hi N c1)
  ·by_cases c2:j=r
   ·subst c2
    rw [u j (Nat.le_refl _),z2 j (by omega),J.piv]
    have:=x2 i hi N
    omega
   ·by_cases c3:i < r
    ·have:=x2 i hi c3
     have:=z1 j (by omega) W
     rw [u j (by omega)]; omega
    ·by_cases c4:i=r
     ·subst c4
      rw [u i (Nat.le_refl _),z2 i (by omega),J.piv,u j (by omega)]
      exact z1 j (by omega) W
     ·rw [u i (by omega),u j (by omega)]
      exact ge_of (h2 i j (by omega) N W)
 ·rcases G with G | G
  ·exact .inl G
  ·exact .inr fun i i1 i2=>by rw [z2 i (by omega),z2 (A - 1) (by omega)]; exact G i i1 (by omega)
theorem fin_eq (h:Fin D a b A B X) (u:SplitE Y A B pv r X) (W:∀ k,A≤k→k < B→pv≤Y[k]!) (hA:A < r) (hr:r≤B) (G:B≤X.size):Fin D a b r B X∧Go.Sort.Below ltInt r B X:=by
 have N:∀ k,A≤k→k < B→pv≤X[k]!:=Go.Sort.permIn_all Y X A B (fun v=>pv≤v) (by rw [← u.perm.1]; exact G) u.perm W
 refine ⟨fun X' p s=>?_,.inr fun i i1 i2=>?_⟩
 ·have J:∀ k,k < r→X'[k]! = X[k]!:=fun k hk=>p.2.1 k (.inl hk)
  have x2:∀ k,r≤k→k < B→pv < X'[k]!:=Go.Sort.permIn_all X X' r B (fun v=>pv < v) G p (fun k k1 k2=>u.hi k k1 k2)
  refine h X' (Go.Sort.permIn_mono _ _ _ _ _ _ (by omega) (Nat.le_refl _) G p) fun i j hi a0 I=>nlt ?_
  by_cases c1:i < r
  ·have h3:=u.lo i hi c1
   by_cases c2:j < r
   ·rw [J i c1,J j c2]
    have:=N j (by omega) I
    omega
   ·have:=x2 j (by omega) I
    rw [J i c1]; omega
  ·exact ge_of (s i j (by omega) a0 I)
 ·have:=u.lo (r - 1) (by omega) (by omega)
  have:=u.hi i i1 i2
  exact nlt (by omega)
end
theorem pdq_srt (k:Nat):∀ (g n c:Nat) (D:Array Int) (a b:Nat) (aA:Int) (w:World),b - a≤k→D.size=n→Row w g n D.toList→Go.Sort.Below ltInt a b D→a≤b→b≤n→n≤200→0 < n→0≤aA→aA≤9223372036854775807 →
  Calls Tryz.prog 232 #[.slice (some ⟨g,0,none⟩) n c,.int .i64 a,.int .i64 b,.int .i64 aA] w fun e w'=>e=.returned (.tuple #[])∧Pq g n (fun X=>PermIn a b D X∧SortedIn ltInt a b X) w w':=by
 induction k using Nat.strongRecOn with
 | _ k ih=>
 intro g n c D a b aA w hk hD h aL aT hb hn aD aX aY
 have HI:=Lh ih
 have aI:Hid (Pq g n (fun X=>Fin D a b a b X∧Go.Sort.Below ltInt a b X) w w):=Lh (Pq.start hD ⟨fun X' h1 h2=>⟨h1,h2⟩,aL⟩ h)
 clear ih h hD aL
 go_enter Tryz.func232,Tryz.ntmps232
 go_wp2_with fail
 go_loopw [1,2,3,8,9] (fun sa sb sl s8 s9 wr=>∃ (A B:Nat) (L:Int) (wb wp:Bool),a≤A∧A≤B∧B≤b∧sa=.int .i64 A∧sb=.int .i64 B∧sl=.int .i64 L∧0≤L∧L≤9223372036854775807∧s8=.bool wb∧s9=.bool wp∧Hid (Pq g n (fun X=>Fin D a b A B X∧Go.Sort.Below ltInt A B X) w wr)) (fun sa sb _ _ _ _=>(intOf sb - intOf sa).toNat)
 case atStart=>exact ⟨a,b,aA,true,true,Nat.le_refl _,aT,Nat.le_refl _,rfl,rfl,rfl,aX,aY,rfl,rfl,aI⟩
 case round=>
  clear aI
  obtain ⟨A,B,L,wb,wp,hA,b3,hB,rfl,rfl,rfl,aQ,aR,rfl,rfl,G⟩:=hrel
  obtain ⟨q,hq⟩:∃ q:Nat,B=A+q:=⟨B - A,by omega⟩
  have e1:(B:Int) - (A:Int)=(q:Int):=by omega
  have b4:B≤A+q:=by omega
  have b5:A+q≤B:=by omega
  clear hq
  by_cases hq12:q≤12
  ·obtain ⟨d1,a8,N,I,aj⟩:=G.out
   have ai:=Lh I
   have aa:=Lh N
   have ae:=Lh a8
   clear I N G a8
   go_wp2_with fail
   refine (insertion_srt g n c d1 A B _ ae.out ai.out (by omega) (by omega) (by omega)).mono ?_
   rintro e w2 ⟨rfl,h2⟩
   have H2:=Lh h2
   clear h2
   go_wp2_with fail
   refine bodyPost_ret (v:=.tuple #[]) (by simp [results,Tryz.results232]) rfl ?_
   exact ⟨rfl,Pq.trans aj (H2.out.imp fun X _ u=>aa.out.1 X u.1 u.2)⟩
  by_cases hL:L=0
  ·subst hL
   obtain ⟨d1,a8,N,I,aj⟩:=G.out
   have ai:=Lh I
   have aa:=Lh N
   have ae:=Lh a8
   clear I N G a8
   go_wp2_with fail
   refine (heap_srt g n c d1 A B _ ae.out ai.out (by omega) (by omega) (by omega)).mono ?_
   rintro e w2 ⟨rfl,h2⟩
   have H2:=Lh h2
   clear h2
   go_wp2_with fail
   refine bodyPost_ret (v:=.tuple #[]) (by simp [results,Tryz.results232]) rfl ?_
   exact ⟨rfl,Pq.trans aj (H2.out.imp fun X _ u=>aa.out.1 X u.1 u.2)⟩
  have qL:(L == 0)=false:=by simpa using hL
  have aS:1≤L:=by omega
  clear hL
  go_upto_if 35 with (fail)
  go_cut [3] from 19 to 133 (fun s3 wx=>∃ J:Int,s3=.int .i64 J∧0≤J∧J≤9223372036854775807∧Hid (Pq g n (fun X=>Fin D a b A B X∧Go.Sort.Below ltInt A B X) w wx))
  case first=>
   cases wb
   ·obtain ⟨d1,a8,N,I,aj⟩:=G.out
    have ai:=Lh I
    have aa:=Lh N
    have ae:=Lh a8
    clear I N G a8
    go_wp2_with fail
    refine (break_srt g n c d1 A B _ ae.out ai.out (by omega) (by omega) hn).mono ?_
    rintro e w2 ⟨rfl,h2⟩
    have H2:=Lh h2
    clear h2
    go_wp2_with fail
    go_meet
    exact ⟨L - 1,rfl,by omega,by omega,Pq.trans aj (H2.out.imp fun X _ u=>⟨aa.out.1.perm u,bl_perm aa.out.2 (by rw [ae.out]; omega) u⟩)⟩
   ·go_wp2_with fail
    go_meet
    exact ⟨L,rfl,by omega,by omega,G⟩
  case rest=>
   clear G qL aS aQ aR
   obtain ⟨J,rfl,a0,a1,G⟩:=hcut
   obtain ⟨d1,a8,N,I,aj⟩:=G.out
   have ai:=Lh I
   have aa:=Lh N
   have ae:=Lh a8
   clear I N G a8
   go_wp2_with fail
   refine (pivot_srt g n c d1.toList A B _ ai.out (by omega) (by omega) (by omega)).mono ?_
   rintro e w2 ⟨p,t,rfl,al,N,ht,h2,h3⟩
   have au:Hid (Pq g n (fun X=>Fin D a b A B X∧Go.Sort.Below ltInt A B X) w w2):=Lh ⟨d1,ae.out,aa.out,h2,aj.trans h3⟩
   clear h2 h3 ai aa ae aj
   go_upto_if 50 with (fail)
   go_cut [11,12] from 19 to 133 (fun aZ b0 wx=>∃ (p2:Nat) (t2:Int),aZ=.int .i64 p2∧b0=.int .i64 t2∧A≤p2∧p2 < B∧(t2=0∨t2=1)∧Hid (Pq g n (fun X=>Fin D a b A B X∧Go.Sort.Below ltInt A B X) w wx))
   case first=>
    rcases ht with rfl | rfl | rfl
    ·go_wp2_with fail
     go_meet
     exact ⟨p,0,rfl,rfl,al,N,by omega,au⟩
    ·go_wp2_with fail
     go_meet
     exact ⟨p,1,rfl,rfl,al,N,by omega,au⟩
    ·obtain ⟨d2,aO,aM,aN,aW⟩:=au.out
     have aP:=Lh aN
     have aH:=Lh aM
     have aK:=Lh aO
     clear aN aM au aO
     go_wp2_with fail
     refine (reverse_srt g n c d2 A B _ aK.out aP.out (by omega) (by omega) (by omega)).mono ?_
     rintro e w3 ⟨rfl,h3⟩
     have H3:=Lh h3
     clear h3
     go_wp2_with fail
     go_meet
     exact ⟨B - 1 - (p - A),1,by rw [show ((B - 1 - (p - A):Nat):Int)=(B:Int) - 1 - ((p:Int) - (A:Int)) by omega],rfl,by omega,by omega,by omega,Pq.trans aW (H3.out.imp fun X _ u=>⟨aH.out.1.perm u,bl_perm aH.out.2 (by rw [aK.out]; omega) u⟩)⟩
   case rest=>
    clear au al N ht
    obtain ⟨p2,t2,rfl,rfl,al,N,ht,G⟩:=hcut
    go_upto_region 15 with (fail)
    go_cut [68] from 19 to 133 (fun b2 wx=>∃ bb:Bool,b2=.bool bb∧Hid (Pq g n (fun X=>Fin D a b A B X∧Go.Sort.Below ltInt A B X) w wx))
    case first=>
     cases wb <;> cases wp <;> rcases ht with rfl | rfl
     all_goals
      go_wp2_with fail
      go_meet
      exact ⟨_,rfl,G⟩
    case rest=>
     clear G ht
     obtain ⟨bb,rfl,G⟩:=hcut
     cases bb
     ·have b6:True:=trivial
      go_upto_region 17 with (fail)
      go_cut [87] from 19 to 133 (fun aG wx=>∃ bb:Bool,aG=.bool bb∧Hid (Pq g n (fun X=>Fin D a b A B X∧Go.Sort.Below ltInt A B X∧(bb=true → ∀ i,A≤i→i < B→X[p2]! ≤ X[i]!)) w wx))
      case first=>
       by_cases hA0:A=0
       ·have q1:decide ((0:Int) < (A:Int))=false:=by simp; omega
        have q2:decide (0 < A)=false:=by simp; omega
        have HQ:Hid (Pq g n (fun X=>Fin D a b A B X∧Go.Sort.Below ltInt A B X∧((0:Nat)=1 → ∀ i,A≤i→i < B→X[p2]! ≤ X[i]!)) w _):=Lh (G.out.imp fun X _ u=>⟨u.1,u.2,fun e=>by cases e⟩)
        clear G
        go_wp2_with fail
        go_quiet (fail)
        go_wp2_with fail
        go_meet
        exact ⟨false,rfl,(HQ.out.drewN _).imp fun X _ u=>⟨u.1,u.2.1,fun e=>by cases e⟩⟩
       ·obtain ⟨d3,an,a4,a5,ak⟩:=G.out
        obtain ⟨m,hm⟩:=Int.eq_ofNat_of_zero_le (show 0≤(A:Int) - 1 by omega)
        obtain ⟨x,hx,aU⟩:=a5.get (show m < n by omega)
        obtain ⟨y,hy,aV⟩:=a5.get (show p2 < n by omega)
        have w1:IntKind.i64.wrap ((A:Int) - 1)=(m:Int):=by rw [hm]; exact IntWalk.i64_in _ (by omega)
        have v2:(0:Int)≤(m:Int):=by omega
        have v3:(m:Int) < (n:Int):=by omega
        have v4:(0:Int)≤(p2:Int):=by omega
        have v5:(p2:Int) < (n:Int):=by omega
        have q1:decide ((0:Int) < (A:Int))=true:=by simp; omega
        have q2:decide (0 < A)=true:=by simp; omega
        have HQ:Hid (Pq g n (fun X=>Fin D a b A B X∧Go.Sort.Below ltInt A B X∧((!decide (x < y))=true → ∀ i,A≤i→i < B→X[p2]! ≤ X[i]!)) w _):=Lh ⟨d3,an,⟨a4.1,a4.2,fun e i i1 i2=>by
         have e1:¬ x < y:=by simpa using e
         rcases a4.2 with h0 | h0
         ·exact absurd h0 hA0
         ·have h5:=ge_of (h0 i i1 i2)
          rw [show A - 1=m by omega,bang hx] at h5
          rw [bang hy]; omega⟩,a5,ak⟩
        clear hx hy a5 a4 ak hm hA0 G an
        go_wp2_with fail
        go_quiet ((go_at_call 245; first | exact less_quiet _ _ | exact less_quiet2 _ _))
        go_wp2_with fail
        go_meet
        exact ⟨_,rfl,HQ.out.drewN _⟩
      case rest=>
       clear G
       obtain ⟨bb,rfl,G⟩:=hcut
       obtain ⟨d4,ay,aq,aw,af⟩:=G.out
       have ac:=Lh aw
       have a2:=Lh aq
       have a6:=Lh ay
       clear aw aq G ay
       cases bb
       ·go_wp2_with fail
        refine (part_srt g n c d4 A B p2 _ a6.out ac.out (by omega) (by omega) al N (by omega)).mono ?_
        rintro e w5 ⟨r,t5,rfl,ag,I,d5,az,ah,ax,ar⟩
        have ad:=Lh ax
        have a3:=Lh az
        have a9:=Lh (af.trans ar)
        have W:Hid (Fin D a b A B d5∧Go.Sort.Below ltInt A B d5∧Split d4 A B d4[p2]! r d5):=Lh ⟨a2.out.1.perm ah.perm,bl_perm a2.out.2.1 (by rw [a6.out]; omega) ah.perm,ah⟩
        clear ax az ah ar af ac a2 a6
        by_cases hlr:r - A < B - r
        ·have aF:(r:Int) - (A:Int) < (B:Int) - (r:Int):=by omega
         go_wp2_with fail
         refine (HI.out (r - A) (by omega) g n c d5 A r J _ (Nat.le_refl _) a3.out ad.out (bl_sub W.out.2.1 (by omega)) (by omega) (by omega) hn aD a0 a1).mono ?_
         rintro e w6 ⟨rfl,h6⟩
         have a7:Hid (Pq g n (fun X=>Fin D a b (r+1) B X∧Go.Sort.Below ltInt (r+1) B X) w w6):=Lh (Pq.trans a9.out (h6.imp fun X _ u=>fin_left W.out.1 W.out.2.2 ag I (by rw [a3.out]; omega) u.1 u.2))
         clear h6 ad W a9 a3
         go_wp2_with fail
         go_roundw
         case rel=>first | exact ⟨r+1,B,J,_,_,by omega,by omega,by omega,by first | rfl | go_num,by first | rfl | go_num,rfl,a0,a1,rfl,rfl,a7⟩ | ((repeat apply Exists.intro); exact ⟨⟨r+1,B,J,_,_,by omega,by omega,by omega,by first | rfl | go_num,by first | rfl | go_num,rfl,a0,a1,rfl,rfl,a7⟩,rfl⟩)
         case measure=>simp [intOf] <;> omega
        ·have aF:(B:Int) - (r:Int)≤(r:Int) - (A:Int):=by omega
         go_wp2_with fail
         rw [show (r:Int)+1=((r+1:Nat):Int) by omega]
         refine (HI.out (B - (r+1)) (by omega) g n c d5 (r+1) B J _ (Nat.le_refl _) a3.out ad.out (bl_right W.out.2.2) (by omega) (by omega) hn aD a0 a1).mono ?_
         rintro e w6 ⟨rfl,h6⟩
         have a7:Hid (Pq g n (fun X=>Fin D a b A r X∧Go.Sort.Below ltInt A r X) w w6):=Lh (Pq.trans a9.out (h6.imp fun X _ u=>fin_right W.out.1 W.out.2.1 W.out.2.2 ag I (by rw [a3.out]; omega) u.1 u.2))
         clear h6 ad W a9 a3
         go_wp2_with fail
         go_roundw
         case rel=>first | exact ⟨A,r,J,_,_,by omega,by omega,by omega,by first | rfl | go_num,by first | rfl | go_num,rfl,a0,a1,rfl,rfl,a7⟩ | ((repeat apply Exists.intro); exact ⟨⟨A,r,J,_,_,by omega,by omega,by omega,by first | rfl | go_num,by first | rfl | go_num,rfl,a0,a1,rfl,rfl,a7⟩,rfl⟩)
         case measure=>simp [intOf] <;> omega
       ·go_wp2_with fail
        refine (partEq_srt g n c d4 A B p2 _ a6.out ac.out (by omega) (by omega) al N (by omega)).mono ?_
        rintro e w5 ⟨r,rfl,ag,I,h5⟩
        have av:Hid (Pq g n (fun X=>Fin D a b r B X∧Go.Sort.Below ltInt r B X) w w5):=Lh (Pq.trans af (h5.imp fun X aE u=>fin_eq (a2.out.1.perm u.perm) u (fun k k1 k2=>a2.out.2.2 (by first | rfl | trivial) k k1 k2) ag I (by rw [aE]; omega)))
        clear h5 ac a2 af a6
        go_wp2_with fail
        go_roundw
        case rel=>first | exact ⟨r,B,J,_,_,by omega,by omega,by omega,by first | rfl | go_num,by first | rfl | go_num,rfl,a0,a1,rfl,rfl,av⟩ | ((repeat apply Exists.intro); exact ⟨⟨r,B,J,_,_,by omega,by omega,by omega,by first | rfl | go_num,by first | rfl | go_num,rfl,a0,a1,rfl,rfl,av⟩,rfl⟩)
        case measure=>simp [intOf] <;> omega
     ·obtain ⟨d3,an,a4,a5,ak⟩:=G.out
      have aJ:=Lh a5
      have ao:=Lh a4
      have aB:=Lh an
      clear a5 a4 G an
      go_wp2_with fail
      refine (partial_srt g n c d3 A B _ aB.out aJ.out (by omega) (by omega) ao.out.2 (by omega)).mono ?_
      rintro e w3 ⟨t3,rfl,h3⟩
      have aC:=Lh (Pq.trans ak h3)
      clear h3 aJ ak
      cases t3
      ·have G:Hid (Pq g n (fun X=>Fin D a b A B X∧Go.Sort.Below ltInt A B X) w w3):=Lh (aC.out.imp fun X _ u=>⟨ao.out.1.perm u.1,bl_perm ao.out.2 (by rw [aB.out]; omega) u.1⟩)
       clear aC ao aB
       go_upto_region 17 with (fail)
       go_cut [87] from 19 to 133 (fun aG wx=>∃ bb:Bool,aG=.bool bb∧Hid (Pq g n (fun X=>Fin D a b A B X∧Go.Sort.Below ltInt A B X∧(bb=true → ∀ i,A≤i→i < B→X[p2]! ≤ X[i]!)) w wx))
       case first=>
        by_cases hA0:A=0
        ·have q1:decide ((0:Int) < (A:Int))=false:=by simp; omega
         have q2:decide (0 < A)=false:=by simp; omega
         have HQ:Hid (Pq g n (fun X=>Fin D a b A B X∧Go.Sort.Below ltInt A B X∧((0:Nat)=1 → ∀ i,A≤i→i < B→X[p2]! ≤ X[i]!)) w _):=Lh (G.out.imp fun X _ u=>⟨u.1,u.2,fun e=>by cases e⟩)
         clear G
         go_wp2_with fail
         go_quiet (fail)
         go_wp2_with fail
         go_meet
         exact ⟨false,rfl,(HQ.out.drewN _).imp fun X _ u=>⟨u.1,u.2.1,fun e=>by cases e⟩⟩
        ·obtain ⟨d3,an,a4,a5,ak⟩:=G.out
         obtain ⟨m,hm⟩:=Int.eq_ofNat_of_zero_le (show 0≤(A:Int) - 1 by omega)
         obtain ⟨x,hx,aU⟩:=a5.get (show m < n by omega)
         obtain ⟨y,hy,aV⟩:=a5.get (show p2 < n by omega)
         have w1:IntKind.i64.wrap ((A:Int) - 1)=(m:Int):=by rw [hm]; exact IntWalk.i64_in _ (by omega)
         have v2:(0:Int)≤(m:Int):=by omega
         have v3:(m:Int) < (n:Int):=by omega
         have v4:(0:Int)≤(p2:Int):=by omega
         have v5:(p2:Int) < (n:Int):=by omega
         have q1:decide ((0:Int) < (A:Int))=true:=by simp; omega
         have q2:decide (0 < A)=true:=by simp; omega
         have HQ:Hid (Pq g n (fun X=>Fin D a b A B X∧Go.Sort.Below ltInt A B X∧((!decide (x < y))=true → ∀ i,A≤i→i < B→X[p2]! ≤ X[i]!)) w _):=Lh ⟨d3,an,⟨a4.1,a4.2,fun e i i1 i2=>by
          have e1:¬ x < y:=by simpa using e
          rcases a4.2 with h0 | h0
          ·exact absurd h0 hA0
          ·have h5:=ge_of (h0 i i1 i2)
           rw [show A - 1=m by omega,bang hx] at h5
           rw [bang hy]; omega⟩,a5,ak⟩
         clear hx hy a5 a4 ak hm hA0 G an
         go_wp2_with fail
         go_quiet ((go_at_call 245; first | exact less_quiet _ _ | exact less_quiet2 _ _))
         go_wp2_with fail
         go_meet
         exact ⟨_,rfl,HQ.out.drewN _⟩
       case rest=>
        clear G
        obtain ⟨bb,rfl,G⟩:=hcut
        obtain ⟨d4,ay,aq,aw,af⟩:=G.out
        have ac:=Lh aw
        have a2:=Lh aq
        have a6:=Lh ay
        clear aw aq G ay
        cases bb
        ·go_wp2_with fail
         refine (part_srt g n c d4 A B p2 _ a6.out ac.out (by omega) (by omega) al N (by omega)).mono ?_
         rintro e w5 ⟨r,t5,rfl,ag,I,d5,az,ah,ax,ar⟩
         have ad:=Lh ax
         have a3:=Lh az
         have a9:=Lh (af.trans ar)
         have W:Hid (Fin D a b A B d5∧Go.Sort.Below ltInt A B d5∧Split d4 A B d4[p2]! r d5):=Lh ⟨a2.out.1.perm ah.perm,bl_perm a2.out.2.1 (by rw [a6.out]; omega) ah.perm,ah⟩
         clear ax az ah ar af ac a2 a6
         by_cases hlr:r - A < B - r
         ·have aF:(r:Int) - (A:Int) < (B:Int) - (r:Int):=by omega
          go_wp2_with fail
          refine (HI.out (r - A) (by omega) g n c d5 A r J _ (Nat.le_refl _) a3.out ad.out (bl_sub W.out.2.1 (by omega)) (by omega) (by omega) hn aD a0 a1).mono ?_
          rintro e w6 ⟨rfl,h6⟩
          have a7:Hid (Pq g n (fun X=>Fin D a b (r+1) B X∧Go.Sort.Below ltInt (r+1) B X) w w6):=Lh (Pq.trans a9.out (h6.imp fun X _ u=>fin_left W.out.1 W.out.2.2 ag I (by rw [a3.out]; omega) u.1 u.2))
          clear h6 ad W a9 a3
          go_wp2_with fail
          go_roundw
          case rel=>first | exact ⟨r+1,B,J,_,_,by omega,by omega,by omega,by first | rfl | go_num,by first | rfl | go_num,rfl,a0,a1,rfl,rfl,a7⟩ | ((repeat apply Exists.intro); exact ⟨⟨r+1,B,J,_,_,by omega,by omega,by omega,by first | rfl | go_num,by first | rfl | go_num,rfl,a0,a1,rfl,rfl,a7⟩,rfl⟩)
          case measure=>simp [intOf] <;> omega
         ·have aF:(B:Int) - (r:Int)≤(r:Int) - (A:Int):=by omega
          go_wp2_with fail
          rw [show (r:Int)+1=((r+1:Nat):Int) by omega]
          refine (HI.out (B - (r+1)) (by omega) g n c d5 (r+1) B J _ (Nat.le_refl _) a3.out ad.out (bl_right W.out.2.2) (by omega) (by omega) hn aD a0 a1).mono ?_
          rintro e w6 ⟨rfl,h6⟩
          have a7:Hid (Pq g n (fun X=>Fin D a b A r X∧Go.Sort.Below ltInt A r X) w w6):=Lh (Pq.trans a9.out (h6.imp fun X _ u=>fin_right W.out.1 W.out.2.1 W.out.2.2 ag I (by rw [a3.out]; omega) u.1 u.2))
          clear h6 ad W a9 a3
          go_wp2_with fail
          go_roundw
          case rel=>first | exact ⟨A,r,J,_,_,by omega,by omega,by omega,by first | rfl | go_num,by first | rfl | go_num,rfl,a0,a1,rfl,rfl,a7⟩ | ((repeat apply Exists.intro); exact ⟨⟨A,r,J,_,_,by omega,by omega,by omega,by first | rfl | go_num,by first | rfl | go_num,rfl,a0,a1,rfl,rfl,a7⟩,rfl⟩)
          case measure=>simp [intOf] <;> omega
        ·go_wp2_with fail
         refine (partEq_srt g n c d4 A B p2 _ a6.out ac.out (by omega) (by omega) al N (by omega)).mono ?_
         rintro e w5 ⟨r,rfl,ag,I,h5⟩
         have av:Hid (Pq g n (fun X=>Fin D a b r B X∧Go.Sort.Below ltInt r B X) w w5):=Lh (Pq.trans af (h5.imp fun X aE u=>fin_eq (a2.out.1.perm u.perm) u (fun k k1 k2=>a2.out.2.2 (by first | rfl | trivial) k k1 k2) ag I (by rw [aE]; omega)))
         clear h5 ac a2 af a6
         go_wp2_with fail
         go_roundw
         case rel=>first | exact ⟨r,B,J,_,_,by omega,by omega,by omega,by first | rfl | go_num,by first | rfl | go_num,rfl,a0,a1,rfl,rfl,av⟩ | ((repeat apply Exists.intro); exact ⟨⟨r,B,J,_,_,by omega,by omega,by omega,by first | rfl | go_num,by first | rfl | go_num,rfl,a0,a1,rfl,rfl,av⟩,rfl⟩)
         case measure=>simp [intOf] <;> omega
      ·have HQ:Hid (Pq g n (fun X=>PermIn a b D X∧SortedIn ltInt a b X) w w3):=Lh (aC.out.imp fun X _ u=>ao.out.1 X u.1 (u.2 rfl))
       clear aC ao aB
       go_wp2_with fail
       refine bodyPost_ret (v:=.tuple #[]) (by simp [results,Tryz.results232]) rfl ?_
       exact ⟨rfl,HQ.out⟩
theorem pdq_zero' (g n c:Nat) (D:Array Int) (u:Int) (w:World) (J:D.size=n) (h:Row w g n D.toList) (hn:n≤200) (N:0 < n) (G:0≤u) (I:u≤9223372036854775807) :
  Calls Tryz.prog 232 #[.slice (some ⟨g,0,none⟩) n c,.int .i64 0,.int .i64 n,.int .i64 u] w fun e w'=>e=.returned (.tuple #[])∧Pq g n (fun X=>PermIn 0 n D X∧SortedIn ltInt 0 n X) w w':=
 pdq_srt n g n c D 0 n u w (by omega) J h (.inl rfl) (Nat.zero_le _) (Nat.le_refl _) hn N G I
theorem sort_srt (g n c:Nat) (D:Array Int) (w:World) (G:D.size=n) (h:Row w g n D.toList) (hn:n≤200) (W:0 < n) :
  Calls Tryz.prog 220 #[.slice (some ⟨g,0,none⟩) n c] w fun e w'=>e=.returned (.tuple #[])∧Pq g n (fun X=>PermIn 0 n D X∧SortedIn ltInt 0 n X) w w':=by
 have N:=Lh h
 have J:=Lh G
 have a0:=bitLen_small n (by omega)
 clear h G
 go_enter Tryz.func220,Tryz.ntmps220
 go_wp2_with fail
 refine (len_any n _ (by omega)).mono ?_
 rintro e w1 ⟨rfl,rfl⟩
 go_wp2_with fail
 refine (pdq_zero' g n c D _ _ J.out N.out hn W (by omega) (by omega)).mono ?_
 rintro e w2 ⟨rfl,u⟩
 have I:=Lh u
 clear u
 go_wp2_with fail
 go_end0
 exact ⟨rfl,I.out⟩
theorem insertion_none' (A:Option Addr) (c:Nat) (w:World) :
  Calls Tryz.prog 239 #[.slice A 0 c,.int .i64 0,.int .i64 0] w fun e w'=>e=.returned (.tuple #[])∧w=w':=by
 go_enter Tryz.func239,Tryz.ntmps239
 go_wp2
 refine wp_loop_rounds 1 ?_
 rw [rounds_succ]
 go_wp2
 go_end0
 exact ⟨rfl,rfl⟩
theorem pdq_none' (A:Option Addr) (c:Nat) (h:Int) (w:World) :
  Calls Tryz.prog 232 #[.slice A 0 c,.int .i64 0,.int .i64 0,.int .i64 h] w fun e w'=>e=.returned (.tuple #[])∧w=w':=by
 go_enter Tryz.func232,Tryz.ntmps232
 go_wp2_with fail
 refine wp_loop_rounds 1 ?_
 rw [rounds_succ]
 go_wp2_with fail
 refine (insertion_none' A c _).mono ?_
 rintro e u ⟨rfl,rfl⟩
 go_wp2_with fail
 refine bodyPost_ret (v:=.tuple #[]) (by simp [results,Tryz.results232]) rfl ?_
 exact ⟨rfl,rfl⟩
theorem len_zero' (w:World):Calls Tryz.prog 233 #[.int .u64 0] w fun e w'=>∃ l:Int,e=.returned (.int .i64 l)∧w=w':=
 (len_any 0 w (by omega)).mono fun e w' ⟨h,u⟩=>⟨_,h,u⟩
theorem sort_none' (A:Option Addr) (c:Nat) (w:World) :
  Calls Tryz.prog 220 #[.slice A 0 c] w fun e w'=>e=.returned (.tuple #[])∧w=w':=by
 go_enter Tryz.func220,Tryz.ntmps220
 go_wp2_with fail
 refine (len_zero' _).mono ?_
 rintro e h ⟨l,rfl,rfl⟩
 go_wp2_with fail
 refine (pdq_none' A c l _).mono ?_
 rintro e u ⟨rfl,rfl⟩
 go_wp2_with fail
 go_end0
 exact ⟨rfl,rfl⟩
theorem bang_get {A:Array Int} {i:Nat} (h:i < A.toList.length):A[i]! = A.toList[i]:=bang (List.getElem?_eq_getElem h)
theorem rises {n:Nat} {D X:Array Int} (hD:D.size=n) (G:X.size=n) (h:PermIn 0 n D X∧SortedIn ltInt 0 n X):X.toList.Perm D.toList∧X.toList.Pairwise (· ≤ ·):=by
 obtain ⟨⟨h1,h2,u⟩,W⟩:=h
 constructor
 ·have J:X.extract 0 n=X:=by rw [← G]; exact Array.extract_size
  have N:D.extract 0 n=D:=by rw [← hD]; exact Array.extract_size
  rw [J,N] at u
  exact u
 ·rw [List.pairwise_iff_getElem]
  intro i j hi I a0
  have:=ge_of (W i j (Nat.zero_le _) a0 (by rw [← G]; simpa using I))
  rw [bang_get hi,bang_get I] at this
  exact this
theorem sortU_any (w:World) (base:Nat) (A:Option Addr) (n c:Nat) (h:List Int) (hn:h.length=n) (I:w.ownsRow base 22 1 (.slice A n c) n (h.map (Value.int .u64))) (a3:n≤200) :
  Calls Tryz.prog 220 #[.slice A n c] w fun e w'=>e=.returned (.tuple #[]) ∧ ∃ u:List Int,u.Perm h∧u.Pairwise (· ≤ ·)∧Rd (Value.int .u64) w' w'.heap.size A n c u∧w.grownBy w' (Value.slice A n c).ownBlock:=by
 subst hn
 by_cases h0:h.length=0
 ·obtain rfl:=List.eq_nil_of_length_eq_zero h0
  refine (sort_none' A c w).mono ?_
  rintro e w' ⟨rfl,rfl⟩
  exact ⟨rfl,[],List.Perm.refl _,List.Pairwise.nil,Rd.own_rd I,World.grownBy.refl _ _⟩
 ·rcases I.2 with ⟨_,h1⟩ | ⟨b,cap,a4,hs,a5,W,a2,a0,a6,a7⟩
  ·omega
  injection hs with hA _ hc
  subst hA hc
  have a1:b < w.heap.size:=(Array.getElem?_eq_some_iff.1 W).1
  have hR:Row w b h.length h.toArray.toList:=by
   refine ⟨rfl,fun j x hx=>?_,fun j G=>by simp [World.frozen?,W]⟩
   obtain ⟨G,rfl⟩:=List.getElem?_eq_some_iff.1 hx
   rw [I.cellAt j (by rw [Nat.mul_one]; exact G),List.getElem?_map,List.getElem?_eq_getElem G]
   rfl
  refine (sort_srt b h.length c h.toArray w rfl hR a3 (by omega)).mono ?_
  rintro e w' ⟨rfl,X,N,hP,h2,J⟩
  obtain ⟨p1,p2⟩:=rises rfl N hP
  refine ⟨rfl,X.toList,p1,p2,⟨by simpa using N,a2,by unfold maxLen at a0; exact a0,fun _=>⟨b,0,rfl,Nat.lt_of_lt_of_le a1 J.size,fun j x hx=>by rw [Nat.zero_add]; exact h2.cell j x hx⟩⟩,J⟩
end Go.Proofs.YtaeemilldmhbnaaGreatDoor.So
namespace Go.Proofs.YtaeemilldmhbnaaGreatDoor.Iu
open Go Go.ChangeMaps Go.Maps Go.MapKept Go.RowKit Go.Sort Go.Shelf Rw Mt Ba
section
variable {β:Type} {E:Enc β} {P:Program} {k e t:TypeId} {F:Fence} {n:Nat} (w:World) {ops:Array Oper} {rest:List Oper} {o:Oper} {a:Act} {Q:Exit→Act→World→Prop}
theorem range1In (W:o.guard=none) (m:Operand) (t:TypeId) (a0:o.op=Op.range t m) (k e:TypeId) (hk:P.underlying k=some (.int .u64)) (ht:P.underlying t=some (.map k e)) (b:Nat) (l:List (Int × β)) (hm:a.eval m=.map (some b)) (h:Mo P k E w b l)
  (N:∀ w',Rg P k E w' b w.heap.size l l→w.grownBy w' none→w'.heap.size=w.heap.size+1→wpListIn F n P ops Q rest (a.put o.dst (.pointer (some ⟨w.heap.size,0,none⟩))) w'):wpListIn F n P ops Q (o :: rest) a w:=by
 obtain ⟨⟨D,ho,u⟩,hn⟩:=h
 exact wpListIn_range_own w W m t a0 k e (int_keyed hk) ht E.R b l.length D hm ho fun w' G I J=>N w' ⟨⟨D,_,_,G,u,u.has⟩,fun _ h=>h,hn,hn⟩ I J
theorem next1In (hg:o.guard=none) (N:Operand) (ad:o.op=Op.next N false) (k:TypeId) (hk:P.underlying k=some (.int .u64)) (b r:Nat) (l left:List (Int × β)) (hit:a.eval N=.pointer (some ⟨r,0,none⟩)) (h:Rg P k E w b r l left)
  (a5:left=[] → wpListIn F n P ops Q rest (a.put o.dst (.tuple #[.bool false])) w)
  (a6:∀ y x w',(y,x)∈left→0≤y∧y≤18446744073709551615→Rg P k E w' b r l (wo left y)→w'.rangeLeft b r < w.rangeLeft b r→w.grownBy w' (some r)→w'.heap.size=w.heap.size →
   (Instr.entry (.pointer (some ⟨r,0,none⟩))).run P w'=.ok (.tuple #[.int .u64 y,E.val x]) w'→wpListIn F n P ops Q rest (a.put o.dst (.tuple #[.bool true,.int .u64 y,E.val x])) w'):wpListIn F n P ops Q (o :: rest) a w:=by
 obtain ⟨⟨D,lf,cnt,a1,hT,I⟩,a3,hn,ac⟩:=h
 refine wpListIn_next_ranges w hg N ad k (int_keyed hk) E.R (Value.int .u64) E.val (fun key kl G=>by obtain ⟨x,rfl,_⟩:=Maps.keyOf_int_inv hk G; exact ⟨x,rfl⟩) (fun v y hv=>by obtain ⟨c,rfl,_⟩:=E.inv v y hv; exact ⟨c,rfl⟩)
  b r l.length D lf cnt hit a1 (fun _ hl=>a5 ?_) (fun y x kl z w' ah G a0 hv a7 a2 aa a9 ae a8=>?_)
 ·cases left with
  | nil=>rfl
  | cons a r=>have:=I a.1; rw [hl] at this; simp at this
 ·obtain ⟨y',u,rfl,af⟩:=Maps.keyOf_int_inv hk G
  injection u with _ u
  subst u
  rw [I,decide_eq_true_eq] at a0
  obtain ⟨x',a4⟩:=mem_key.1 a0
  rw [E.mk_ x] at hv
  injection hv with hv
  have ag:x'=x:=by
   have h1:=hT.hit y x' (a3 _ a4) (.map [])
   rw [a7,← hv] at h1
   exact (E.inj _ _ h1).symm
  subst ag
  have hy:0≤y∧y≤18446744073709551615:=by
   simp [Lit.wf,IntKind.min,IntKind.max,IntKind.signed,IntKind.bits] at af
   omega
  refine a6 y x' w' a4 hy ⟨⟨D,_,_,a2,hT,fun q=>?_⟩,fun z hz=>a3 z (mem_wo.1 hz).1,hn,ac.wo y⟩ ?_ a9 ae a8
  ·have e1:(Lit.int .u64 q).sameKey (.int .u64 y)=decide (q=y):=by simp [Lit.sameKey]
   rw [I,e1]
   by_cases hq:q=y
   ·subst hq
    rw [decide_eq_false (wo_key (l:=left))]
    simp
   ·rw [decide_eq_false hq]
    simp only [Bool.not_false,Bool.and_true]
    congr 1
    rw [mem_key,mem_key,eq_iff_iff]
    exact ⟨fun ⟨W,J⟩=>⟨W,mem_wo.2 ⟨J,hq⟩⟩,fun ⟨W,J⟩=>⟨W,(mem_wo.1 J).1⟩⟩
  ·rw [a2.left_eq,a1.left_eq]; exact aa
theorem Rg.walks {w w':World} {b r:Nat} {l left:List (Int × β)} (h:Rg P k E w b r l left) (hk:KeepsWalks w w'):Rg P k E w' b r l left∧w'.rangeLeft b r=w.rangeLeft b r:=by
 obtain ⟨⟨D,lf,cnt,u,G,I⟩,J,N,W⟩:=h
 exact ⟨⟨⟨D,lf,cnt,u.of_walks hk,G,I⟩,J,N,W⟩,by rw [(u.of_walks hk).left_eq,u.left_eq]⟩
theorem Rg.iter {w:World} {b r:Nat} {l left:List (Int × β)} (h:Rg P k E w b r l left):∃ o:Obj,w.heap[r]? = some o∧o.isWalk=true:=by
 obtain ⟨⟨D,lf,cnt,u,G,I⟩,J,N,W⟩:=h
 exact u.iter_walk
end
abbrev eU:Int→Value:=Value.int .u64
theorem keys1 (n:Nat) (hn:1≤n) (l Bm b:Nat) (L:List (Int × Option Nat)) (J:List Int→World→Prop)
  (hY:∀ a0 x W,J a0 W→a0.length < L.length→YieldAt Fence.wide (n - 1) Tryz.prog l #[eU x] W fun e G=>e=.returned (.bool true)∧J (a0 ++ [x]) G∧KeepsWalks W G)
  (W:World) (hJ:AbidesFrom W.heap.size J) (hm:W.cell? ⟨Bm,0,none⟩=some (.map (some b))) (h:MP W b L) (h0:J [] W) :
  CallsIn Fence.wide n Tryz.prog 221 #[.func (.yield l) #[] #[],.pointer (some ⟨Bm,0,none⟩)] W fun e G=>(∃ v,e=.returned v) ∧ ∃ ss:List Int,ss.Perm (L.map Prod.fst)∧J ss G:=by
 refine callsIn_of_wp Tryz.func221 rfl trivial ?_ rfl
 simp only [Tryz.ntmps221,List.size_toArray,List.length_cons,List.length_nil,Nat.reduceAdd,Nat.reduceSub,Array.replicate_succ,Array.replicate_zero,List.push_toArray,List.append_toArray,List.nil_append,List.cons_append]
 gi_wp2_with (first
  | (gi_at_range; refine range1In _ rfl _ 184 rfl 22 201 Tryz.underlying22 Tryz.underlying184 b L rfl h ?_; intro w0 ae a5 al)
  | gi_in)
 go_frame
 gi_loopw [3] (fun _ wr=>∃ (left u:List (Int × Option Nat)),Rg Tryz.prog 22 eP wr b W.heap.size L left∧(u ++ left).Perm L∧J (u.map Prod.fst) wr)
  (fun _ wr=>wr.rangeLeft b W.heap.size)
 case atStart=>exact ⟨L,[],ae,List.Perm.refl _,hJ [] W w0 none h0 a5 (fun r e=>by cases e)⟩
 case round=>
  obtain ⟨left,u,N,I,a1⟩:=hrel
  gi_wp2_with (first
   | (gi_at_next; refine next1In _ rfl _ rfl 22 Tryz.underlying22 b W.heap.size L left rfl N ?_ ?_)
   | gi_in)
  ·intro a8
   gi_wp2
   go_end0
   rw [a8,List.append_nil] at I
   exact ⟨⟨_,rfl⟩,_,I.map _,a1⟩
  ·intro y x w2 a2 an ao af ac a6 ah ak
   have a3:J (u.map Prod.fst) w2:=hJ _ wr w2 (some W.heap.size) a1 a6 (fun r e=>by cases e; exact ⟨Nat.le_refl _,Rg.iter N⟩)
   have aa:(u.map Prod.fst).length < L.length:=by
    have h1:=I.length_eq
    have h2:0 < left.length:=List.length_pos_of_mem a2
    simp at h1 ⊢; omega
   obtain ⟨fn,ar,ai,aj,aq,hR⟩:=hY _ y w2 a3 aa
   have ad:=N.ndl
   clear ah
   gi_wp2
   refine hR.mono ?_
   rintro e W3 ⟨rfl,a4,a7⟩
   gi_wp2
   obtain ⟨ag,a9⟩:=Rg.walks af a7
   go_roundw
   case rel=>exact ⟨wo left y,u ++ [(y,x)],ag,by rw [List.append_assoc]; exact (List.Perm.append_left u (perm_wo ad a2).symm).trans I,by simpa using a4⟩
   case measure=>rw [a9]; exact ac
theorem keys_in (n:Nat) (h:Option Nat) (w:World) :
  CallsIn Fence.wide n Tryz.prog 191 #[.map h] w fun e w'=>e=.returned (.func (.func 221) #[] #[.pointer (some ⟨w.heap.size,0,none⟩)])∧w'=w.alloc (.cells #[.map h] 184):=by
 refine callsIn_of_wp Tryz.func191 rfl trivial ?_ rfl
 simp only [Tryz.ntmps191,List.size_toArray,List.length_cons,List.length_nil,Nat.reduceAdd,Nat.reduceSub,Array.replicate_succ,Array.replicate_zero,List.push_toArray,List.append_toArray,List.nil_append,List.cons_append]
 gi_wp2
 go_ret
 exact ⟨rfl,rfl⟩
theorem keys_gives (n:Nat) (hn:1≤n) (u b:Nat) (L:List (Int × Option Nat)) (w:World) (N:u < w.heap.size) (hm:w.cell? ⟨u,0,none⟩=some (.map (some b))) (h:MP w b L) :
  SeqGives Fence.wide n Tryz.prog 221 #[.pointer (some ⟨u,0,none⟩)] eU (fun ss=>ss.Perm (L.map Prod.fst)) L.length w:=fun l J W G hJ hY I=>
 keys1 n hn l u b L J hY W hJ ((G.cell (p:=⟨u,0,none⟩) N).trans hm) (h.below G h.lt) I
def ren:Ren:={ f:=fun _=>0,t:=fun k=>if k=24 then 38 else if k=26 then 22 else 0,g:=fun x=>x }
abbrev rec_ (fn:FuncId) (sv:Value) (Bs D:Nat) (st:LoopState) (pend:Option Code):Loop:=AnyZI.apRec ren fn sv Bs D st pend
structure Ap (w0:World) (fn:FuncId) (sv:Value) (Bs l D:Nat) (ss:List Int) (W:World):Prop where
 box:∃ v,W.heap[Bs]? = some (.cells #[v] 38 (0,0))∧W.ownsRow w0.heap.size 22 1 v ss.length (ss.map eU)
 L:W.heap[l]? = some (.loop (rec_ fn sv Bs D .ready none))
 K:W.heap[D]? = some (.deferred (some []))
 below:Below w0.heap.size w0 W
theorem ap_abides (J:World) (fn:FuncId) (sv:Value) (N l D B:Nat) (hB:J.heap.size≤B):AbidesFrom B (Ap J fn sv N l D):=fun s W W' row h u I=>by
 have G:∀ r,row=some r → ∃ o:Obj,W.heap[r]? = some o∧o.isWalk=true:=fun r e=>(I r e).2
 obtain ⟨v,hv,hr⟩:=h.box
 exact ⟨⟨v,(grownBy_keeps u G hv rfl).trans hv,ownsRow_abides_a hr u G⟩,(grownBy_keeps u G h.L rfl).trans h.L,(grownBy_keeps u G h.K rfl).trans h.K,
  h.below.grown u h.below.size (fun k e=>Nat.le_trans hB (I k e).1)⟩
theorem ne_box {W:World} {base:Nat} {v:Value} {k:Nat} {xs:List Value} (h:W.ownsRow base 22 1 v k xs) {j:Nat} {o:Obj} (I:W.heap[j]? = some o) (J:∀ u,o≠.cells u 22 (0,0)):some j≠v.ownBlock:=by
 rcases ownsRow_ne_a h I J with e | e
 ·rw [e]; simp
 ·exact fun G=>e G.symm
theorem ap_yield (m:Nat) (I:World) (fn:FuncId) (sv:Value) (u l D:Nat) (ac:u≠l) (ai:D≠l) (ax:D≠u) (av:I.heap.size≤u) (ah:I.heap.size≤l)
  (N:Nat) (hN:N≤1000000) (J:List Int) (x:Int) (W:World) (h:Ap I fn sv u l D J W) (aP:J.length < N) :
  YieldAt Fence.wide m Tryz.prog l #[eU x] W fun e W'=>e=.returned (.bool true)∧Ap I fn sv u l D (J ++ [x]) W'∧KeepsWalks W W':=by
 obtain ⟨i0,hi,aG,aH,aI⟩:=info_parts Sl.info_u64
 obtain ⟨v,hv,ar⟩:=h.box
 refine ⟨fn,#[.slice none 0 0,sv,.pointer (some ⟨u,0,none⟩),undef,.slice none 0 0,undef,sv,eU x,undef,undef,undef,undef,undef],AnyZI.apAssign ren,AnyZI.apBody ren,by simpa [AnyZI.apRec] using run_yield (P:=Tryz.prog) (args:=#[eU x]) h.L rfl,roundIn_of_wpIn (show Fence.wide.fn fn from trivial) ?_⟩
 have hl:l < W.heap.size:=(Array.getElem?_eq_some_iff.1 h.L).1
 have aA:=run_beginRound (P:=Tryz.prog) h.L rfl
 obtain ⟨G,a1⟩:∃ G,W.putObj l (.loop { rec_ fn sv u D .ready none with state:=.busy })=G:=⟨_,rfl⟩
 rw [a1] at aA
 have ao:W.grownBy G (some l):=by rw [← a1]; exact grownBy_putObj_a _ _ _
 have aB:KeepsWalks W G:=by rw [← a1]; exact KeepsWalks.putObj _ h.L rfl
 have aa:G.heap[u]? = some (.cells #[v] 38 (0,0)):=by rw [← a1]; exact (World.putObj_heap_other ac).trans hv
 have ad:G.heap[D]? = some (.deferred (some [])):=by rw [← a1]; exact (World.putObj_heap_other ai).trans h.K
 have ae:G.heap[l]? = some (.loop { rec_ fn sv u D .ready none with state:=.busy }):=by rw [← a1]; exact World.putObj_heap_same hl
 have a2:G.ownsRow I.heap.size 22 1 v J.length (J.map eU):=ar.kept ao (ownsRow_ne_a ar h.L (fun a3 e=>by cases e))
 have a7:Below I.heap.size I G:=h.below.grown ao h.below.size (fun k e=>by cases e; exact ah)
 obtain ⟨aK,aM⟩:=cell_of_box_a aa
 have aw:u < G.heap.size:=(Array.getElem?_eq_some_iff.1 aa).1
 have aD:l < G.heap.size:=(Array.getElem?_eq_some_iff.1 ae).1
 have ay:D < G.heap.size:=(Array.getElem?_eq_some_iff.1 ad).1
 have n1:=ne_box a2 aa (fun a3 e=>by cases e)
 have n2:=ne_box a2 ae (fun a3 e=>by cases e)
 have n3:=ne_box a2 ad (fun a3 e=>by cases e)
 clear a1
 unfold AnyZI.apAssign
 simp only [ren,reduceIte,Nat.reduceEqDiff]
 gi_wp2_with gi_round_op_a
 unfold AnyZI.apBody
 simp only [reduceIte,Nat.reduceEqDiff]
 gi_wp2_with (first
  | (gi_at_builtin; refine wpListIn_append_own _ rfl _ _ 38 rfl I.heap.size 22 i0 (.int .u64 0) 1 8 Tryz.underlying38 hi aG aH aI rfl (by decide) _ _ _ rfl (a2.alloc _) ⟨G.heap.size,0,none⟩ 1 1 [eU x] rfl rfl (cell_one_new _ _ _) (by simp [Value.oneCell']) (by unfold maxLen; omega) (by omega) (by have:=a7.size; simp; omega) ?_; intro v' w3 af aq aQ
     have ag:w3.heap[u]? = some (.cells #[v] 38 (0,0)):=(aq.block u (by simp; omega) n1).trans ((Below.heap_alloc _ _ u aw).trans aa)
     obtain ⟨aL,aN⟩:=cell_of_box_a ag
     obtain ⟨g',a0,a5,rfl,aJ,aO,aR,aS,aT,aU⟩:∃ g' a0 a5,v'=.slice (some ⟨g',0,none⟩) (J.length+1) a0∧I.heap.size≤g'∧w3.heap[g']? = some (.cells a5 22 (0,0))∧J.length+1≤a0∧a0≤maxLen∧a5.size=a0 * 1∧a5.toList.take ((J.length+1) * 1)=J.map eU ++ [eU x]:=by
      rcases af.2 with ⟨_,h0⟩ | h'
      ·exact absurd h0 (by omega)
      ·exact h'
     go_frame)
  | gi_round_op_a)
 have a8:(G.alloc (.cells #[eU x] 22)).grownBy w3 v.ownBlock:=aq
 have ak:w3.heap[l]? = some (.loop { rec_ fn sv u D .ready none with state:=.busy }):=(a8.block l (by simp; omega) n2).trans ((Below.heap_alloc _ _ l aD).trans ae)
 have aj:w3.heap[D]? = some (.deferred (some [])):=(a8.block D (by simp; omega) n3).trans ((Below.heap_alloc _ _ D ay).trans ad)
 obtain ⟨w4,a4⟩:∃ w4,w3.setCell ⟨u,0,none⟩ (.slice (some ⟨g',0,none⟩) (J.length+1) a0)=w4:=⟨_,rfl⟩
 rw [a4]
 have a9:w3.grownBy w4 (some u):=by rw [← a4]; exact grownBy_setCell0_a _ _ _
 have aF:w4.heap[u]? = some (.cells #[.slice (some ⟨g',0,none⟩) (J.length+1) a0] 38 (0,0)):=by rw [← a4]; exact heap_setCell_box_a _ ag
 have a6:w4.heap[l]? = some (.loop { rec_ fn sv u D .ready none with state:=.busy }):=(a9.block l (Array.getElem?_eq_some_iff.1 ak).1 (fun e=>ac (by cases e; rfl))).trans ak
 have az:w4.heap[D]? = some (.deferred (some [])):=(a9.block D (Array.getElem?_eq_some_iff.1 aj).1 (fun e=>ax (by cases e; rfl))).trans aj
 have au:=af.kept a9 (ownsRow_ne_a af ag (fun a3 e=>by cases e))
 have aE:l < w4.heap.size:=(Array.getElem?_eq_some_iff.1 a6).1
 have al:Below I.heap.size I w3:=(a7.alloc a7.size _).grown a8 (by have:=a7.size; simp; omega) (fun k e=>(a2.lt k e).1)
 have an:Below I.heap.size I w4:=al.grown a9 al.size (fun k e=>by cases e; exact av)
 have aC:KeepsWalks W w4:=((aB.trans (KeepsWalks.alloc _ _)).trans (KeepsWalks.of_grownBy a8 (ownsRow_not_walk_a (a2.alloc _)))).trans (by rw [← a4]; exact KeepsWalks.setCell _ _ _)
 clear a4
 refine ⟨_,_,run_endRound none a6,rfl,⟨⟨_,(World.putObj_heap_other ac).trans aF,?_⟩,World.putObj_heap_same aE,(World.putObj_heap_other ai).trans az,an.grown (grownBy_putObj_a _ _ _) an.size (fun k e=>by cases e; exact ah)⟩,aC.trans (KeepsWalks.putObj _ a6 rfl)⟩
 have:=au.kept (grownBy_putObj_a w4 l (.loop { { rec_ fn sv u D .ready none with state:=.busy } with state:=if (none:Option Code).isNone then .ready else .done,pending:=none })) (ownsRow_ne_a au a6 (fun a3 e=>by cases e))
 simpa using this
theorem appendSeq_in (n:Nat) (hn:2≤n) (g:Nat) (G:Array Value) (eg:∀ args w,(callFunc g args).run Tryz.prog w=.ok (.enter g args) w)
  (S:List Int→Prop) (N:Nat) (hN:N≤1000000) (w:World) (af:SeqGives Fence.wide (n - 1) Tryz.prog g G eU S N w) :
  CallsIn Fence.wide n Tryz.prog 231 #[.slice none 0 0,.func (.func g) #[] G] w fun e w'=>∃ (v:Value) (ss:List Int),e=.returned v∧S ss∧w'.ownsRow w.heap.size 22 1 v ss.length (ss.map eU)∧Below w.heap.size w w':=by
 have h1:1≤n:=by omega
 refine callsIn_of_wp_marks Tryz.func231 rfl trivial ?_ rfl
 simp only [Tryz.ntmps231,List.size_toArray,List.length_cons,List.length_nil,Nat.reduceAdd,Nat.reduceSub,Array.replicate_succ,Array.replicate_zero,List.push_toArray,List.append_toArray,List.nil_append,List.cons_append]
 gi_wp2
 refine wpIn_rangeFunc ?_
 intro fn an
 obtain ⟨h,a2⟩:∃ h,w.alloc (.cells #[.slice none 0 0] 38)=h:=⟨_,rfl⟩
 have ae:h.heap.size=w.heap.size+1:=by rw [← a2]; simp
 have ag:h.heap[w.heap.size]? = some (.cells #[.slice none 0 0] 38 (0,0)):=by rw [← a2]; exact World.alloc_heap_new w _
 have a3:Below w.heap.size w h:=by rw [← a2]; exact (Below.refl _ w).alloc (Nat.le_refl _) _
 rw [a2]
 obtain ⟨u,a0⟩:∃ u,(h.alloc (.deferred (some []))).alloc (.loop (rec_ fn (.func (.func g) #[] G) w.heap.size h.heap.size .ready none))=u:=⟨_,rfl⟩
 have ad:∀ k,k < h.heap.size→u.heap[k]? = h.heap[k]?:=fun k hk=>by
  rw [← a0]; exact (Below.heap_alloc _ _ k (by simp; omega)).trans (Below.heap_alloc _ _ k hk)
 have a4:Below w.heap.size w u:=by rw [← a0]; exact (a3.alloc a3.size _).alloc (by have:=a3.size; simp; omega) _
 have ao:u.heap.size=h.heap.size+2:=by rw [← a0]; simp
 have hM:Ap w fn (.func (.func g) #[] G) w.heap.size (h.heap.size+1) h.heap.size [] u:=
  ⟨⟨_,(ad w.heap.size (by omega)).trans ag,⟨rfl,.inl ⟨rfl,rfl⟩⟩⟩,
   by rw [← a0]; have:=World.alloc_heap_new (h.alloc (.deferred (some []))) (.loop (rec_ fn (.func (.func g) #[] G) w.heap.size h.heap.size .ready none)); rwa [World.size_alloc] at this,
   by rw [← a0]; exact (Below.heap_alloc _ _ _ (by simp)).trans (World.alloc_heap_new h _),a4⟩
 refine ⟨h.heap.size+1,[{ target:=.collected h.heap.size,args:=#[] }],u,{ target:=.fn (.func g) G,args:=#[.func (.yield (h.heap.size+1)) #[] #[]] },u,g,
  #[.func (.yield (h.heap.size+1)) #[] #[]] ++ G,u,?_,?_,?_,?_,fun _=>h1,?_⟩
 ·rw [← a0]; exact run_enterLoop_outer _ _ _ _ _
 ·simp [resolve,go_sem]
 ·intro f' ak; trivial
 ·simp [invoke,go_sem,eg]
 ·refine (af (h.heap.size+1) (Ap w fn (.func (.func g) #[] G) w.heap.size (h.heap.size+1) h.heap.size) u a4 (ap_abides _ _ _ _ _ _ _ a4.size)
   (fun ai x W hJ hl=>ap_yield (n - 1 - 1) w fn _ w.heap.size (h.heap.size+1) h.heap.size (by omega) (by omega) (by omega) (Nat.le_refl _) (by omega) N hN ai x W hJ hl) hM).mono ?_
  rintro e W2 ⟨⟨v0,rfl⟩,ss,hS,J⟩
  obtain ⟨v,hv,a9⟩:=J.box
  have a7:=run_endLoop (P:=Tryz.prog) J.L (by simp [AnyZI.apRec])
  obtain ⟨I,a1⟩:∃ I,W2.putObj (h.heap.size+1) (.loop { rec_ fn (.func (.func g) #[] G) w.heap.size h.heap.size .ready none with state:=.exhausted })=I:=⟨_,rfl⟩
  rw [a1] at a7
  have a8:W2.grownBy I (some (h.heap.size+1)):=by rw [← a1]; exact grownBy_putObj_a _ _ _
  have ah:I.heap[w.heap.size]? = some (.cells #[v] 38 (0,0)):=by rw [← a1]; exact (World.putObj_heap_other (by omega)).trans hv
  have a5:I.heap[h.heap.size]? = some (.deferred (some [])):=by rw [← a1]; exact (World.putObj_heap_other (by omega)).trans J.K
  have aa:=a9.kept a8 (ownsRow_ne_a a9 J.L (fun ac e=>by cases e))
  have a6:Below w.heap.size w I:=J.below.grown a8 J.below.size (fun k e=>by cases e; omega)
  obtain ⟨aj,al⟩:=cell_of_box_a ah
  clear a1
  refine ⟨none,I,a7,?_⟩
  gi_wp2
  rw [← ae]
  refine ⟨by simp,.inl ⟨_,_,rfl,run_takeDeferred a5,?_⟩⟩
  exact ⟨_,results_tmp rfl _ _ _,v,ss,rfl,hS,aa.kept (grownBy_putObj_a _ _ _) (ownsRow_ne_a aa a5 (fun ac e=>by cases e)),a6.grown (grownBy_putObj_a _ _ _) a6.size (fun k e=>by cases e; omega)⟩
theorem collect_any (g:Nat) (u:Array Value) (eg:∀ args w,(callFunc g args).run Tryz.prog w=.ok (.enter g args) w)
  (S:List Int→Prop) (N:Nat) (hN:N≤1000000) (w:World) (W:SeqGives Fence.wide 3 Tryz.prog g u eU S N w) :
  Calls Tryz.prog 219 #[.func (.func g) #[] u] w fun e w'=>∃ (v:Value) (h:List Int),e=.returned v∧S h∧w'.ownsRow w.heap.size 22 1 v h.length (h.map eU)∧Below w.heap.size w w':=by
 have H:=Lh (callsIn_wide.1 (appendSeq_in 4 (by omega) g u eg S N hN w W))
 clear W
 go_enter Tryz.func219,Tryz.ntmps219
 go_wp2_with fail
 refine H.out.mono ?_
 rintro e w' ⟨v,h,rfl,I,J,hb⟩
 have G:=Lh (And.intro I J)
 clear I J
 go_wp2_with fail
 go_ret
 exact ⟨v,h,rfl,G.out.1,G.out.2,hb⟩
theorem sorted_in (g:Nat) (J:Array Value) (eg:∀ args w,(callFunc g args).run Tryz.prog w=.ok (.enter g args) w)
  (S:List Int→Prop) (N:Nat) (hN:N≤200) (hS:∀ h,S h→h.length≤N) (w:World) (a5:SeqGives Fence.wide 3 Tryz.prog g J eU S N w) :
  Calls Tryz.prog 190 #[.func (.func g) #[] J] w fun e w'=>∃ (A:Option Addr) (c:Nat) (h ks:List Int),e=.returned (.slice A ks.length c)∧S h∧ks.Perm h∧ks.Pairwise (· ≤ ·)∧Rd (Value.int .u64) w' w'.heap.size A ks.length c ks∧Below w.heap.size w w':=by
 have HC:=Lh (collect_any g J eg S N (by omega) w a5)
 have HS:=Lh hS
 clear hS a5
 go_enter Tryz.func190,Tryz.ntmps190
 go_wp2_with fail
 refine HC.out.mono ?_
 rintro e w1 ⟨v,h,rfl,I,G,hb⟩
 obtain ⟨A,c,rfl⟩:=own_slice G
 have hl:=HS.out h I
 have a0:=Lh G
 have W:=Lh hb
 have a9:=Lh I
 clear G hb I
 go_wp2_with fail
 refine (So.sortU_any w1 w.heap.size A h.length c h rfl a0.out (by omega)).mono ?_
 rintro e w2 ⟨rfl,ks,u,a4,a3,a1⟩
 have a2:=u.length_eq
 have HP:=Lh u
 have a8:=Lh a4
 have a7:=Lh a3
 have a6:=Lh a1
 clear u a4 a3 a1
 go_wp2_with fail
 go_ret
 exact ⟨A,c,h,ks,by rw [a2]; rfl,a9.out,HP.out,a8.out,by rw [a2]; exact a7.out,W.out.grown a6.out W.out.size (fun k hk=>(a0.out.lt k hk).1)⟩
theorem rising_eq {a b:List Int} (J:a.Perm b) (ha:a.Pairwise (· ≤ ·)) (I:b.Pairwise (· < ·)):a=b:=
 J.eq_of_pairwise (fun x y _ _ u G=>Int.le_antisymm u G) ha (I.imp (fun h=>Int.le_of_lt h))
theorem ids_any {C R:Nat→Prop} (w:World) (p a:Nat) (D:List (Int × Ex)) (S:List Int) (h:Bx C R w p a D S) (hl:D.length≤200) :
  Calls Tryz.prog 139 #[ptr p] w fun e w'=>∃ A c,e=.returned (.slice A D.length c)∧Rd (Value.int .u64) w' w'.heap.size A D.length c (D.map Prod.fst)∧Below w.heap.size w w':=by
 obtain ⟨L,h,rfl⟩:=h
 have c0:=h.c0
 have HM:=Lh h.mo
 have a4:=Lh (ris_keys.1 h.ri)
 have a7:=h.lt
 have hw:Below w.heap.size w (w.alloc (.cells #[.map (some a)] 184)):=(Below.refl _ w).alloc (Nat.le_refl _) _
 have a5:=Lh (keys_gives 3 (by omega) w.heap.size a (bl L) (w.alloc (.cells #[.map (some a)] 184)) (by simp) (by simp) (h.mo.later hw))
 have HW:=Lh hw
 have a6:(bl L).length≤200:=by simpa [bl] using hl
 clear h hw
 go_enter Tryz.func139,Tryz.ntmps139
 go_wp2_with fail
 refine (callsIn_wide.1 (keys_in 3 (some a) w)).mono ?_
 rintro e w1 ⟨rfl,rfl⟩
 go_wp2_with fail
 refine (sorted_in _ _ (enters_of Tryz.func221 (by kernel_rfl) rfl) _ (bl L).length a6 (fun ss u=>by rw [u.length_eq]; simp) _ a5.out).mono ?_
 rintro e w2 ⟨A,c,ss,ks,rfl,u,W,a1,a0,J⟩
 have G:ks=(ab L).map Prod.fst:=by
  have h1:((bl L).map Prod.fst).Pairwise (· < ·):=by rw [bl_keys]; exact a4.out
  have h2:=rising_eq (W.trans u) a1 h1
  rw [h2,bl_keys]
  simp [ab,Function.comp_def]
 have N:ks.length=(ab L).length:=by rw [G]; simp
 have a2:=Lh G
 have a3:=Lh a0
 have HB:=Lh (HW.out.trans (J.mono (by simp)))
 have I:=Lh N
 clear u W a1 a0 J G N
 go_wp2_with fail
 go_ret
 exact ⟨A,c,by rw [← I.out]; rfl,by rw [← I.out,← a2.out]; exact a3.out,HB.out⟩
end Go.Proofs.YtaeemilldmhbnaaGreatDoor.Iu
