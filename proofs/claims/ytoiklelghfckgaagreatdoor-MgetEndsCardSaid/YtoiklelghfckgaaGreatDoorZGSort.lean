/- A part of the claim: the texts Base8 IterU. -/
import Derived.Test.YtoiklelghfckgaaGreatDoorZBase1
import Derived.Test.YtoiklelghfckgaaGreatDoorZGBag
import Derived.Shelf.Small.Bits
import Derived.Laws.Closers25b
import Derived.Laws.Bits64b
import Derived.Sort.LotA
import Derived.Sort.LotB
import Derived.Sort.LotC
import Derived.Deep.DeepCutAuto
import Derived.Shelf.SlIterI.Sorted
import Derived.Sort.MapsRangeIn
set_option maxHeartbeats 8000000
set_option linter.unusedVariables false
namespace Go.Proofs.YtoiklelghfckgaaGreatDoor.So
open Go.ChangeShapes Go.WideShapes Go.ChangeAt Go.RowKit Rw
structure Row (w:World) (g n:Nat) (d:List Int):Prop where
 len:d.length=n
 cell:∀ j x,d[j]? = some x→w.cell? ⟨g,j,none⟩=some (.int .u64 x)
 free:∀ j,j < n→w.frozen? ⟨g,j,none⟩=false
def Pm (g n:Nat) (d:List Int) (w w':World):Prop:=∃ d',d'.Perm d∧Row w' g n d'∧w.grownBy w' (some g)
theorem Row.get {w:World} {g n:Nat} {d:List Int} (h:Row w g n d) {j:Nat} (G:j < n):∃ x,d[j]? = some x∧w.cell? ⟨g,j,none⟩=some (.int .u64 x):=by
 have u:j < d.length:=by rw [h.len]; exact G
 exact ⟨d[j],List.getElem?_eq_getElem u,h.cell j _ (List.getElem?_eq_getElem u)⟩
theorem Row.lt {w:World} {g n:Nat} {d:List Int} (h:Row w g n d) (hn:0 < n):g < w.heap.size:=by
 obtain ⟨x,_,hc⟩:=h.get hn
 exact Lw.lt_heap hc
theorem Row.drewN {w:World} {g n:Nat} {d:List Int} (h:Row w g n d) (k:Nat):Row (w.drewN k) g n d:=⟨h.len,h.cell,h.free⟩
theorem Row.drew {w:World} {g n:Nat} {d:List Int} (h:Row w g n d):Row w.drew g n d:=⟨h.len,h.cell,h.free⟩
theorem Row.set {w:World} {g n:Nat} {d:List Int} (h:Row w g n d) {i:Nat} (hi:i < n) (x:Int):Row (w.setCell ⟨g,i,none⟩ (.int .u64 x)) g n (d.set i x):=by
 refine ⟨by rw [List.length_set]; exact h.len,fun j y u=>?_,fun j I=>by rw [World.frozen?_setCell]; exact h.free j I⟩
 rw [List.getElem?_set] at u
 obtain ⟨z,_,W⟩:=h.get hi
 split at u
 ·next e=>
  subst e
  have J:i < d.length:=by rw [h.len]; exact hi
  simp [J] at u
  subst u
  exact World.cell?_setCell_same w _ _ (by rw [W])
 ·next e=>exact (World.cell?_setCell_other w _ _ _ (fun G=>e (by injection G))).trans (h.cell j y u)
theorem grown_setCell (w:World) (g i:Nat) (v:Value):w.grownBy (w.setCell ⟨g,i,none⟩ v) (some g):=
 ⟨rfl,rfl,rfl,by simp,fun k _ hk=>Below.heap_setCell w _ v k (fun e=>hk (by rw [e]))⟩
theorem grown_drewN (w:World) (k:Nat) (r:Option Nat):w.grownBy (w.drewN k) r:=⟨rfl,rfl,rfl,Nat.le_refl _,fun _ _ _=>rfl⟩
theorem Pm.refl {g n:Nat} {d:List Int} {w:World} (h:Row w g n d):Pm g n d w w:=⟨d,List.Perm.refl _,h,World.grownBy.refl _ _⟩
theorem Pm.trans {g n:Nat} {d u:List Int} {w G I:World} (hp:u.Perm d) (hg:w.grownBy G (some g)) (h:Pm g n u G I):Pm g n d w I:=by
 obtain ⟨J,W,h2,h3⟩:=h
 exact ⟨J,W.trans hp,h2,hg.trans h3⟩
theorem perm_swap {d:List Int} {i j:Nat} {x y:Int} (hi:d[i]? = some x) (W:d[j]? = some y):((d.set i y).set j x).Perm d:=by
 obtain ⟨G,rfl⟩:=List.getElem?_eq_some_iff.1 hi
 obtain ⟨I,rfl⟩:=List.getElem?_eq_some_iff.1 W
 by_cases e:i=j
 ·subst e
  simp
 have h:=Array.swap_perm (xs:=d.toArray) (i:=i) (j:=j) (by simpa using G) (by simpa using I)
 have J:(d.toArray.swap i j (by simpa using G) (by simpa using I)).toList=(d.set i d[j]).set j d[i]:=by simp [Array.swap]
 have u:=Array.perm_iff_toList_perm.1 h
 rw [J] at u
 simpa using u
theorem Row.swap {w w':World} {g n:Nat} {d:List Int} {i j:Nat} {x y:Int} (h:Row w g n d) (hi:d[i]? = some x) (u:d[j]? = some y) (k:Nat)
  (hw:w'=((w.drewN k).setCell ⟨g,i,none⟩ (.int .u64 y)).setCell ⟨g,j,none⟩ (.int .u64 x)):Pm g n d w w':=by
 subst hw
 have G:i < n:=by rw [← h.len]; exact (List.getElem?_eq_some_iff.1 hi).1
 have I:j < n:=by rw [← h.len]; exact (List.getElem?_eq_some_iff.1 u).1
 exact ⟨_,perm_swap hi u,((h.drewN k).set G y).set I x,((grown_drewN w k _).trans (grown_setCell _ g i _)).trans (grown_setCell _ g j _)⟩
end Go.Proofs.YtoiklelghfckgaaGreatDoor.So
namespace Go.Proofs.YtoiklelghfckgaaGreatDoor.So
open Go.ChangeShapes Go.WideShapes Go.ChangeAt Go.RowKit Rw Go.Shelf
def lenF (k:Nat):Nat:=if k=125 then 275 else if k=128 then 287 else if k=129 then 288 else 0
def lenT (k:Nat):Nat:=if k=3 then 3 else if k=4 then 4 else if k=5 then 5 else if k=9 then 9 else if k=46 then 137 else if k=51 then 334 else if k=53 then 25 else 0
def lenRen:Ren:={ f:=lenF,t:=lenT,g:=fun x=>x }
theorem lays125:Lays.n125 Tryz.prog lenRen:={
 mixed:=by kernel_rfl
 f125:=by kernel_rfl
 f128:=by kernel_rfl
 f129:=by kernel_rfl
 t3:=by kernel_rfl
 a3:=fun w=>by kernel_rfl
 z3:=fun w=>by kernel_rfl
 v3:=fun w=>by kernel_rfl
 t4:=by kernel_rfl
 a4:=fun w=>by kernel_rfl
 z4:=fun w=>by kernel_rfl
 v4:=fun w=>by kernel_rfl
 t5:=by kernel_rfl
 a5:=fun w=>by kernel_rfl
 z5:=fun w=>by kernel_rfl
 v5:=fun w=>by kernel_rfl
 t9:=by kernel_rfl
 a9:=fun w=>by kernel_rfl
 z9:=fun w=>by kernel_rfl
 v9:=fun w=>by kernel_rfl
 t46:=by kernel_rfl
 a46:=fun w=>by kernel_rfl
 z46:=fun w=>by kernel_rfl
 v46:=fun w=>by kernel_rfl
 t51:=by kernel_rfl
 a51:=fun w=>by kernel_rfl
 z51:=fun w=>by kernel_rfl
 v51:=fun w=>by kernel_rfl
 t53:=by kernel_rfl
 a53:=fun w=>by kernel_rfl
 z53:=fun w=>by kernel_rfl
 v53:=fun w=>by kernel_rfl }
theorem len_any (x:Nat) (w:World) (h:x≤18446744073709551615):Calls Tryz.prog 275 #[.int .u64 x] w fun e w'=>e=.returned (.int .i64 (Lib.bitLen x))∧w=w':=
 (Any.bits_Len lays125 x w (by omega) (by omega)).mono fun e w' ⟨u,G⟩=>⟨by simpa using u,G.symm⟩
theorem bitLen_small (x:Nat) (h:x < 256):Lib.bitLen x≤8:=Lib.bitLen_le8 ⟨x,h⟩
theorem bitLen_pow (x:Nat) (h:x < 256) (u:1≤x):2 ^ Lib.bitLen x≤2 * x:=by
 have:∀ n:Fin 256,1≤n.val→2 ^ Lib.bitLen n.val≤2 * n.val:=by decide +kernel
 exact this ⟨x,h⟩ u
def Pow (x:Nat) (w:World) (e:Ending) (w':World):Prop:=∃ m:Nat,e=.returned (.int .u64 m)∧1≤m∧m≤2 * x∧w=w'
theorem next_any (x:Nat) (w:World) (h:x < 256) (J:1≤x):Calls Tryz.prog 292 #[.int .i64 x] w (Pow x w):=by
 have G:=bitLen_pow x h J
 have W:=bitLen_small x h
 obtain ⟨L,u⟩:∃ L,Lib.bitLen x=L:=⟨_,rfl⟩
 rw [u] at G W
 have I:=Lh u
 clear u
 have hc:L=0∨L=1∨L=2∨L=3∨L=4∨L=5∨L=6∨L=7∨L=8:=by omega
 rcases hc with rfl | rfl | rfl | rfl | rfl | rfl | rfl | rfl | rfl
 all_goals
  go_enter Tryz.func292,Tryz.ntmps292
  go_wp2_with fail
  refine (len_any x _ (by omega)).mono ?_
  rintro e w' ⟨rfl,rfl⟩
  rw [I.out]
  go_wp2_with fail
  go_ret
  exact ⟨_,rfl,by decide,G,rfl⟩
end Go.Proofs.YtoiklelghfckgaaGreatDoor.So
namespace Go.Proofs.YtoiklelghfckgaaGreatDoor.So
open Go.ChangeShapes Go.WideShapes Go.ChangeAt Go.RowKit Rw
def St (g n rb:Nat) (d:List Int) (w w':World):Prop:=∃ (d':List Int) (v:Int),d'.Perm d∧Row w' g n d'∧w'.cell? ⟨rb,0,none⟩=some (.int .u64 v)∧w'.frozen? ⟨rb,0,none⟩=false∧w.grownBy w' (some g)
theorem Row.grown {w w':World} {g n J:Nat} {d:List Int} (h:Row w g n d) (u:w.grownBy w' (some J)) (I:g≠J) (G:g < w.heap.size):Row w' g n d:=
 ⟨h.len,fun j x hx=>(World.cell?_of_block (u.block g G (by simp; exact I))).trans (h.cell j x hx),fun j W=>(World.frozen?_of_block (u.block g G (by simp; exact I))).trans (h.free j W)⟩
theorem St.of {g n u:Nat} {d J:List Int} {w G w2:World} {v:Int} (h:Pm g n J G w2) (hp:J.Perm d) (hg:w.grownBy G (some g)) (hc:G.cell? ⟨u,0,none⟩=some (.int .u64 v)) (hf:G.frozen? ⟨u,0,none⟩=false) (W:u≠g):St g n u d w w2:=by
 obtain ⟨d2,h1,h2,I⟩:=h
 exact ⟨d2,v,h1.trans hp,h2,I.cell hc (by simp; exact W),grown_frozen I hf (Lw.lt_heap hc) (by simp; exact W),hg.trans I⟩
end Go.Proofs.YtoiklelghfckgaaGreatDoor.So
namespace Go.Proofs.YtoiklelghfckgaaGreatDoor.So
open Go.ChangeShapes Go.WideShapes Go.ChangeAt Go.RowKit Rw
open Go.Sort (swp ltInt insOuter insInner insertionSort siftDown heapBuild heapPop heapSort PermIn SortedIn swo_ltInt)
theorem bang {A:Array Int} {i:Nat} {x:Int} (h:A.toList[i]? = some x):A[i]! = x:=by
 have u:A[i]? = some x:=by rw [← Array.getElem?_toList]; exact h
 obtain ⟨hi,e⟩:=Array.getElem?_eq_some_iff.1 u
 rw [getElem!_pos A i hi]; exact e
end Go.Proofs.YtoiklelghfckgaaGreatDoor.So
namespace Go.Proofs.YtoiklelghfckgaaGreatDoor.So
open Go.ChangeShapes Go.WideShapes Go.ChangeAt Go.RowKit Rw
open Go.Sort (swp ltInt siftDown heapBuild heapPop heapSort PermIn SortedIn swo_ltInt)
section
variable {hi f r k:Nat} {A:Array Int} {x y z:Int}
end
end Go.Proofs.YtoiklelghfckgaaGreatDoor.So
namespace Go.Proofs.YtoiklelghfckgaaGreatDoor.So
open Go.ChangeShapes Go.WideShapes Go.ChangeAt Go.RowKit Rw
open Go.Sort (swp ltInt PermIn SortedIn)
def plt (pv x:Int):Bool:=decide (x < pv)
structure Pt (p:Int→Bool) (D:Array Int) (a b:Nat) (pv:Int) (i j:Int) (A:Array Int):Prop where
 perm:PermIn a b D A
 piv:A[a]! = pv
 lo:∀ k:Nat,a < k→(k:Int) < i→p A[k]! = true
 hi:∀ k:Nat,j < (k:Int)→k < b→p A[k]! = false
structure Split (D:Array Int) (a b:Nat) (pv:Int) (r:Nat) (A:Array Int):Prop where
 perm:PermIn a b D A
 piv:A[r]! = pv
 lo:∀ k:Nat,a≤k→k < r→A[k]! < pv
 hi:∀ k:Nat,r < k→k < b→pv≤A[k]!
section
variable {p:Int→Bool} {D A:Array Int} {a b:Nat} {pv i j x:Int}
theorem Pt.up (h:Pt p D a b pv i j A) (hi:0≤i) (hx:A[i.toNat]! = x) (G:p x=true):Pt p D a b pv (i+1) j A:=
 ⟨h.perm,h.piv,fun k u I=>by
  by_cases e:(k:Int)=i
  ·rw [show k=i.toNat by omega,hx]; exact G
  ·exact h.lo k u (by omega),h.hi⟩
theorem Pt.swap (h:Pt p D a b pv i j A) (ha:(a:Int) < i) (J:i < j) (W:j < b) (I:b≤A.size) (u:p A[i.toNat]! = false) (G:p A[j.toNat]! = true):Pt p D a b pv (i+1) (j - 1) (swp A i.toNat j.toNat):=by
 refine ⟨Go.Sort.permIn_trans _ _ _ _ _ h.perm (Go.Sort.swp_permIn A a b _ _ (by omega) (by omega) (by omega) (by omega) I),?_,fun k k1 k2=>?_,fun k k1 k2=>?_⟩
 ·rw [Go.Sort.swp_other A _ _ a (by omega) (by omega)]; exact h.piv
 ·by_cases e:(k:Int)=i
  ·rw [show k=i.toNat by omega,Go.Sort.swp_left A _ _ (by omega) (by omega)]; exact G
  ·rw [Go.Sort.swp_other A _ _ k (by omega) (by omega)]; exact h.lo k k1 (by omega)
 ·by_cases e:(k:Int)=j
  ·rw [show k=j.toNat by omega,Go.Sort.swp_right A _ _ (by omega)]; exact u
  ·rw [Go.Sort.swp_other A _ _ k (by omega) (by omega)]; exact h.hi k (by omega) k2
theorem Pt.fin (h:Pt (plt pv) D a b pv i j A) (I:j < i) (ha:(a:Int)≤j) (G:j < b) (u:b≤A.size):Split D a b pv j.toNat (swp A j.toNat a):=by
 refine ⟨Go.Sort.permIn_trans _ _ _ _ _ h.perm (Go.Sort.swp_permIn A a b _ _ (by omega) (by omega) (Nat.le_refl _) (by omega) u),?_,fun k k1 k2=>?_,fun k k1 k2=>?_⟩
 ·by_cases e:j.toNat=a
  ·rw [e,Go.Sort.swp_right A _ _ (by omega)]; exact h.piv
  ·rw [Go.Sort.swp_left A _ _ (by omega) e]; exact h.piv
 ·by_cases e:k=a
  ·subst e
   rw [Go.Sort.swp_right A _ _ (by omega)]
   exact of_decide_eq_true (h.lo j.toNat (by omega) (by omega))
  ·rw [Go.Sort.swp_other A _ _ k (by omega) e]
   exact of_decide_eq_true (h.lo k (by omega) (by omega))
 ·rw [Go.Sort.swp_other A _ _ k (by omega) (by omega)]
  have:=of_decide_eq_false (h.hi k (by omega) k2)
  omega
end
end Go.Proofs.YtoiklelghfckgaaGreatDoor.So
namespace Go.Proofs.YtoiklelghfckgaaGreatDoor.So
open Go.ChangeShapes Go.WideShapes Go.ChangeAt Go.RowKit Rw
open Go.Sort (swp ltInt PermIn SortedIn partialIns partialInsertionSort scanSorted shiftDown shiftUp swo_ltInt)
section
variable {a b s i:Nat} {A:Array Int} {x y:Int}
end
end Go.Proofs.YtoiklelghfckgaaGreatDoor.So
namespace Go.Proofs.YtoiklelghfckgaaGreatDoor.So
open Go.ChangeShapes Go.WideShapes Go.ChangeAt Go.RowKit Rw
end Go.Proofs.YtoiklelghfckgaaGreatDoor.So
namespace Go.Proofs.YtoiklelghfckgaaGreatDoor.So
open Go.ChangeShapes Go.WideShapes Go.ChangeAt Go.RowKit Rw
open Go.Sort (swp ltInt PermIn SortedIn)
end Go.Proofs.YtoiklelghfckgaaGreatDoor.So
namespace Go.Proofs.YtoiklelghfckgaaGreatDoor.So
open Go.ChangeShapes Go.WideShapes Go.ChangeAt Go.RowKit Rw
open Go.Sort (swp ltInt PermIn SortedIn swo_ltInt)
def Fin (D:Array Int) (a b A B:Nat) (X:Array Int):Prop:=∀ X',PermIn A B X X'→SortedIn ltInt A B X'→PermIn a b D X'∧SortedIn ltInt a b X'
section
variable {D X Y:Array Int} {a b A B r:Nat} {pv:Int}
theorem Fin.perm (h:Fin D a b A B X) (J:PermIn A B X Y):Fin D a b A B Y:=fun u G I=>h u (Go.Sort.permIn_trans _ _ _ _ _ J G) I
theorem ge_of {x y:Int} (h:ltInt x y=false):y≤x:=by have:=of_decide_eq_false h; omega
end
theorem bang_get {A:Array Int} {i:Nat} (h:i < A.toList.length):A[i]! = A.toList[i]:=bang (List.getElem?_eq_getElem h)
theorem rises {n:Nat} {D X:Array Int} (hD:D.size=n) (G:X.size=n) (h:PermIn 0 n D X∧SortedIn ltInt 0 n X):X.toList.Perm D.toList∧X.toList.Pairwise (· ≤ ·):=by
 obtain ⟨⟨h1,h2,u⟩,h4⟩:=h
 constructor
 ·have J:X.extract 0 n=X:=by rw [← G]; exact Array.extract_size
  have W:D.extract 0 n=D:=by rw [← hD]; exact Array.extract_size
  rw [J,W] at u
  exact u
 ·rw [List.pairwise_iff_getElem]
  intro i j hi I a0
  have:=ge_of (h4 i j (Nat.zero_le _) a0 (by rw [← G]; simpa using I))
  rw [bang_get hi,bang_get I] at this
  exact this
end Go.Proofs.YtoiklelghfckgaaGreatDoor.So
namespace Go.Proofs.YtoiklelghfckgaaGreatDoor.Iu
open Go Go.ChangeMaps Go.Maps Go.MapKept Go.RowKit Go.Sort Go.Shelf Rw Mt Ba
section
variable {β:Type} {E:Enc β} {P:Program} {k e t:TypeId} {F:Fence} {n:Nat} (w:World) {ops:Array Oper} {rest:List Oper} {o:Oper} {a:Act} {Q:Exit→Act→World→Prop}
end
abbrev eU:Int→Value:=Value.int .u64
def ren:Ren:={ f:=fun _=>0,t:=fun k=>if k=24 then 30 else if k=26 then 25 else 0,g:=fun x=>x }
abbrev rec_ (fn:FuncId) (sv:Value) (Bs D:Nat) (st:LoopState) (pend:Option Code):Loop:=AnyZI.apRec ren fn sv Bs D st pend
structure Ap (w0:World) (fn:FuncId) (sv:Value) (Bs l D:Nat) (ss:List Int) (W:World):Prop where
 box:∃ v,W.heap[Bs]? = some (.cells #[v] 30 (0,0))∧W.ownsRow w0.heap.size 25 1 v ss.length (ss.map eU)
 L:W.heap[l]? = some (.loop (rec_ fn sv Bs D .ready none))
 K:W.heap[D]? = some (.deferred (some []))
 below:Below w0.heap.size w0 W
end Go.Proofs.YtoiklelghfckgaaGreatDoor.Iu
