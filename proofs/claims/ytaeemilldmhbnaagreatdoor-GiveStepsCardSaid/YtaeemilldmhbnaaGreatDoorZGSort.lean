/- A part of the claim: the texts Base8 SortU12 IterU. -/
import Derived.Test.YtaeemilldmhbnaaGreatDoorZBase1
import Derived.Test.YtaeemilldmhbnaaGreatDoorZGBag
import Derived.Shelf.Small.Bits
import Derived.Laws.Closers25b
import Derived.Laws.Bits64b
import Derived.Sort.LotA
import Derived.Sort.LotB
import Derived.Sort.LotC
import Derived.Deep.DeepCutAuto
import Derived.Shelf.SlIterI.Sorted
import Derived.Sort.MapsRangeIn
set_option maxRecDepth 100000
set_option maxHeartbeats 8000000
set_option linter.unusedVariables false
namespace Go.Proofs.YtaeemilldmhbnaaGreatDoor.So
open Go.ChangeShapes Go.WideShapes Go.ChangeAt Go.RowKit Rw
structure Row (w:World) (g n:Nat) (d:List Int):Prop where
 len:d.length=n
 cell:∀ j x,d[j]? = some x→w.cell? ⟨g,j,none⟩=some (.int .u64 x)
 free:∀ j,j < n→w.frozen? ⟨g,j,none⟩=false
theorem Row.get {w:World} {g n:Nat} {d:List Int} (h:Row w g n d) {j:Nat} (G:j < n):∃ x,d[j]? = some x∧w.cell? ⟨g,j,none⟩=some (.int .u64 x):=by
 have u:j < d.length:=by rw [h.len]; exact G
 exact ⟨d[j],List.getElem?_eq_getElem u,h.cell j _ (List.getElem?_eq_getElem u)⟩
theorem Row.drewN {w:World} {g n:Nat} {d:List Int} (h:Row w g n d) (k:Nat):Row (w.drewN k) g n d:=⟨h.len,h.cell,h.free⟩
theorem Row.set {w:World} {g n:Nat} {d:List Int} (h:Row w g n d) {i:Nat} (hi:i < n) (x:Int):Row (w.setCell ⟨g,i,none⟩ (.int .u64 x)) g n (d.set i x):=by
 refine ⟨by rw [List.length_set]; exact h.len,fun j y u=>?_,fun j I=>by rw [World.frozen?_setCell]; exact h.free j I⟩
 rw [List.getElem?_set] at u
 obtain ⟨z,_,W⟩:=h.get hi
 split at u
 ·next e=>
  subst e
  have J:i < d.length:=by rw [h.len]; exact hi
  simp [J] at u
  subst u
  exact World.cell?_setCell_same w _ _ (by rw [W])
 ·next e=>exact (World.cell?_setCell_other w _ _ _ (fun G=>e (by injection G))).trans (h.cell j y u)
theorem grown_setCell (w:World) (g i:Nat) (v:Value):w.grownBy (w.setCell ⟨g,i,none⟩ v) (some g):=
 ⟨rfl,rfl,rfl,by simp,fun k _ hk=>Below.heap_setCell w _ v k (fun e=>hk (by rw [e]))⟩
theorem grown_drewN (w:World) (k:Nat) (r:Option Nat):w.grownBy (w.drewN k) r:=⟨rfl,rfl,rfl,Nat.le_refl _,fun _ _ _=>rfl⟩
theorem nan_any (x:Int) (w:World):Calls Tryz.prog 263 #[.int .u64 x] w fun e w'=>e=.returned (.bool false)∧w=w':=by
 go_enter Tryz.func263,Tryz.ntmps263
 go_wp2
 go_ret
 exact ⟨by simp,rfl⟩
theorem less_any (x y:Int) (w:World):Calls Tryz.prog 245 #[.int .u64 x,.int .u64 y] w fun e w'=>e=.returned (.bool (decide (x < y)))∧w=w':=by
 go_enter Tryz.func245,Tryz.ntmps245
 go_wp2_with fail
 refine (nan_any _ _).mono ?_
 rintro e w' ⟨rfl,rfl⟩
 go_wp2_with fail
 go_ret
 exact ⟨rfl,rfl⟩
theorem less_quiet {w:World} {k:Nat} (x y:Int):Calls Tryz.prog 245 #[.int .u64 x,.int .u64 y] (w.drewN k) fun e G=>e=.returned (.bool (decide (x < y))) ∧ ∃ m,G=w.drewN m:=
 (less_any x y _).mono fun _ _ ⟨h,u⟩=>⟨h,k,u.symm⟩
structure Sw (g sb n:Nat) (d:List Int) (w w':World):Prop where
 row:Row w' g n d
 cell:∃ k:Int,w'.cell? ⟨sb,0,none⟩=some (.int .i64 k)
 free:w'.frozen? ⟨sb,0,none⟩=false
 grown:w.grownBy w' (some sb)
end Go.Proofs.YtaeemilldmhbnaaGreatDoor.So
namespace Go.Proofs.YtaeemilldmhbnaaGreatDoor.So
open Go.ChangeShapes Go.WideShapes Go.ChangeAt Go.RowKit Rw Go.Shelf
def lenF (k:Nat):Nat:=if k=125 then 233 else if k=128 then 248 else if k=129 then 249 else 0
def lenT (k:Nat):Nat:=if k=3 then 3 else if k=4 then 4 else if k=5 then 5 else if k=9 then 9 else if k=46 then 250 else if k=51 then 322 else if k=53 then 22 else 0
def lenRen:Ren:={ f:=lenF,t:=lenT,g:=fun x=>x }
theorem lays125:Lays.n125 Tryz.prog lenRen:={
 mixed:=by kernel_rfl
 f125:=by kernel_rfl
 f128:=by kernel_rfl
 f129:=by kernel_rfl
 t3:=by kernel_rfl
 a3:=fun w=>by kernel_rfl
 z3:=fun w=>by kernel_rfl
 v3:=fun w=>by kernel_rfl
 t4:=by kernel_rfl
 a4:=fun w=>by kernel_rfl
 z4:=fun w=>by kernel_rfl
 v4:=fun w=>by kernel_rfl
 t5:=by kernel_rfl
 a5:=fun w=>by kernel_rfl
 z5:=fun w=>by kernel_rfl
 v5:=fun w=>by kernel_rfl
 t9:=by kernel_rfl
 a9:=fun w=>by kernel_rfl
 z9:=fun w=>by kernel_rfl
 v9:=fun w=>by kernel_rfl
 t46:=by kernel_rfl
 a46:=fun w=>by kernel_rfl
 z46:=fun w=>by kernel_rfl
 v46:=fun w=>by kernel_rfl
 t51:=by kernel_rfl
 a51:=fun w=>by kernel_rfl
 z51:=fun w=>by kernel_rfl
 v51:=fun w=>by kernel_rfl
 t53:=by kernel_rfl
 a53:=fun w=>by kernel_rfl
 z53:=fun w=>by kernel_rfl
 v53:=fun w=>by kernel_rfl }
theorem len_any (x:Nat) (w:World) (h:x≤18446744073709551615):Calls Tryz.prog 233 #[.int .u64 x] w fun e w'=>e=.returned (.int .i64 (Lib.bitLen x))∧w=w':=
 (Any.bits_Len lays125 x w (by omega) (by omega)).mono fun e w' ⟨u,G⟩=>⟨by simpa using u,G.symm⟩
theorem bitLen_small (x:Nat) (h:x < 256):Lib.bitLen x≤8:=Lib.bitLen_le8 ⟨x,h⟩
end Go.Proofs.YtaeemilldmhbnaaGreatDoor.So
namespace Go.Proofs.YtaeemilldmhbnaaGreatDoor.So
open Go.ChangeShapes Go.WideShapes Go.ChangeAt Go.RowKit Rw
def St (g n rb:Nat) (d:List Int) (w w':World):Prop:=∃ (d':List Int) (v:Int),d'.Perm d∧Row w' g n d'∧w'.cell? ⟨rb,0,none⟩=some (.int .u64 v)∧w'.frozen? ⟨rb,0,none⟩=false∧w.grownBy w' (some g)
end Go.Proofs.YtaeemilldmhbnaaGreatDoor.So
namespace Go.Proofs.YtaeemilldmhbnaaGreatDoor.So
open Go.ChangeShapes Go.WideShapes Go.ChangeAt Go.RowKit Rw
open Go.Sort (swp ltInt insOuter insInner insertionSort siftDown heapBuild heapPop heapSort PermIn SortedIn swo_ltInt)
def Pq (g n:Nat) (P:Array Int→Prop) (w w':World):Prop:=∃ A:Array Int,A.size=n∧P A∧Row w' g n A.toList∧w.grownBy w' (some g)
theorem Pq.mk' {g n:Nat} {P:Array Int→Prop} {w w':World} {A:Array Int} (I:A.size=n) (u:P A) (G:w.grownBy w' (some g)) (h:Row w' g n A.toList):Pq g n P w w':=⟨A,I,u,h,G⟩
theorem Pq.start {g n:Nat} {P:Array Int→Prop} {w:World} {A:Array Int} (G:A.size=n) (u:P A) (h:Row w g n A.toList):Pq g n P w w:=⟨A,G,u,h,World.grownBy.refl _ _⟩
theorem Pq.drewN {g n:Nat} {P:Array Int→Prop} {w w':World} (h:Pq g n P w w') (k:Nat):Pq g n P w (w'.drewN k):=by
 obtain ⟨A,u,G,I,J⟩:=h
 exact ⟨A,u,G,I.drewN k,J.trans (grown_drewN _ _ _)⟩
theorem Pq.imp {g n:Nat} {P Q:Array Int→Prop} {w w':World} (h:Pq g n P w w') (f:∀ A:Array Int,A.size=n→P A→Q A):Pq g n Q w w':=by
 obtain ⟨A,u,G,I,J⟩:=h
 exact ⟨A,u,f A u G,I,J⟩
theorem bang {A:Array Int} {i:Nat} {x:Int} (h:A.toList[i]? = some x):A[i]! = x:=by
 have u:A[i]? = some x:=by rw [← Array.getElem?_toList]; exact h
 obtain ⟨hi,e⟩:=Array.getElem?_eq_some_iff.1 u
 rw [getElem!_pos A i hi]; exact e
theorem swp_list {A:Array Int} {i j:Nat} {x y:Int} (hx:A.toList[i]? = some x) (h:A.toList[j]? = some y):(swp A i j).toList=(A.toList.set i y).set j x:=by
 unfold swp
 rw [bang hx,bang h,Array.toList_setIfInBounds,Array.toList_setIfInBounds]
theorem Pq.swap {g n:Nat} {Q:Array Int→Prop} {w u w':World} {A:Array Int} {i j:Nat} {x y:Int} (hs:A.size=n) (J:w.grownBy u (some g)) (h:Row u g n A.toList) (hx:A.toList[i]? = some x) (G:A.toList[j]? = some y) (k:Nat)
  (hw:w'=((u.drewN k).setCell ⟨g,i,none⟩ (.int .u64 y)).setCell ⟨g,j,none⟩ (.int .u64 x)) (I:Q (swp A i j)):Pq g n Q w w':=by
 subst hw
 have W:i < n:=by rw [← h.len]; exact (List.getElem?_eq_some_iff.1 hx).1
 have a0:j < n:=by rw [← h.len]; exact (List.getElem?_eq_some_iff.1 G).1
 refine ⟨swp A i j,by rw [Go.Sort.swp_size]; exact hs,I,?_,J.trans (((grown_drewN u k _).trans (grown_setCell _ g i _)).trans (grown_setCell _ g j _))⟩
 rw [swp_list hx G]
 exact ((h.drewN k).set W y).set a0 x
theorem lt_t {x y:Int} (h:x < y):ltInt x y=true:=decide_eq_true h
theorem lt_f {x y:Int} (h:¬ x < y):ltInt x y=false:=decide_eq_false h
theorem insertion_srt (g n c:Nat) (D:Array Int) (a b:Nat) (w:World) (hD:D.size=n) (h:Row w g n D.toList) (a7:a≤b) (hb:b≤n) (hn:n≤4611686018427387904) :
  Calls Tryz.prog 239 #[.slice (some ⟨g,0,none⟩) n c,.int .i64 a,.int .i64 b] w fun e w'=>e=.returned (.tuple #[])∧Pq g n (fun A=>PermIn a b D A∧SortedIn ltInt a b A) w w':=by
 have HS:=Lh (Go.Sort.insertionSort_holds swo_ltInt D a b a7 (by rw [hD]; exact hb))
 obtain ⟨T,hT⟩:∃ T,insertionSort ltInt D a b=T:=⟨_,rfl⟩
 rw [hT] at HS
 have HR:Hid (Pq g n (fun A=>insOuter ltInt a b (a+1) A=T) w w):=Lh (Pq.start hD hT h)
 clear h hT hD
 go_enter Tryz.func239,Tryz.ntmps239
 go_wp2
 go_loopw [6,7] (fun si _ wr=>∃ i:Nat,a+1≤i∧i≤n+1∧si=.int .i64 i∧Hid (Pq g n (fun A=>insOuter ltInt a b i A=T) w wr)) (fun si _ _=>n+1 - (intOf si).toNat)
 case atStart=>exact ⟨a+1,Nat.le_refl _,by omega,by go_num,HR.out⟩
 case round=>
  obtain ⟨i,ac,ad,rfl,u⟩:=hrel
  by_cases hlt:i < b
  ·go_wp2
   obtain ⟨wo,a8⟩:∃ wo:World,wo=wr:=⟨_,rfl⟩
   subst a8
   go_loopw [7] (fun sj wq=>∃ J:Int,(a:Int)≤J∧J≤i∧sj=.int .i64 J∧Hid (Pq g n (fun A=>insOuter ltInt a b (i+1) (insInner ltInt a J.toNat A)=T) w wq)) (fun sj _=>(intOf sj).toNat)
   case atStart=>exact ⟨i,by omega,by omega,rfl,u.out.imp fun A _ hA=>by rw [insOuter,if_pos hlt] at hA; exact hA⟩
   case round=>
    clear u
    obtain ⟨J,ae,af,rfl,u⟩:=hrel
    by_cases hja:(a:Int) < J
    ·obtain ⟨m,hm⟩:=Int.eq_ofNat_of_zero_le (show 0≤J - 1 by omega)
     have ag:0≤J:=by omega
     have ah:J < (n:Int):=by omega
     have a4:J.toNat=m+1:=by omega
     obtain ⟨d1,a6,a5,W,a3⟩:=u.out
     obtain ⟨x,hx,a9⟩:=W.get (show J.toNat < n by omega)
     obtain ⟨y,hy,aa⟩:=W.get (show m < n by omega)
     have fx:=W.free J.toNat (by omega)
     have fy:=W.free m (by omega)
     have b2:(0:Int)≤(m:Int):=by omega
     have b3:(m:Int) < (n:Int):=by omega
     have ai:J.toNat≠m:=by omega
     have w1:IntKind.i64.wrap (J - 1)=(m:Int):=by rw [hm]; exact IntWalk.i64_in _ (by omega)
     have HX:=Lh hx
     have HY:=Lh hy
     have a1:=Lh W
     have a0:=Lh a5
     have HM:=Lh hm
     have H4:=Lh a4
     have a2:=Lh a6
     have qa:decide ((a:Int) < J)=true:=by simpa using hja
     clear hx hy W a5 u hm a4 a6
     by_cases hxy:x < y
     ·have q1:decide (x < y)=true:=by simpa using hxy
      have G:Hid (insOuter ltInt a b (i+1) (insInner ltInt a m (swp d1 J.toNat m))=T):=Lh (by
       have I:=a0.out
       have ex:=bang HX.out
       have ey:=bang HY.out
       rw [H4.out] at I ex ⊢
       rw [insInner,ex,ey,lt_t hxy,Bool.and_true,if_pos (decide_eq_true (by have:=H4.out; omega))] at I
       exact I)
      go_wp2
      go_quiet ((go_at_call 245; first | exact less_quiet _ _ | exact less_quiet2 _ _))
      go_wp2
      go_region
      go_wp2
      go_roundw
      case rel=>exact ⟨m,by have:=HM.out; omega,by have:=HM.out; omega,by go_num,Pq.swap a2.out (a3.trans (grown_drewN _ nq _)) (a1.out.drewN nq) HX.out HY.out 1 rfl G.out⟩
      case measure=>simp [intOf]; have:=H4.out; omega
     ·have q1:decide (x < y)=false:=by simpa using hxy
      have G:Hid (insOuter ltInt a b (i+1) d1=T):=Lh (by
       have I:=a0.out
       have ex:=bang HX.out
       have ey:=bang HY.out
       rw [H4.out] at I ex
       rw [insInner,ex,ey,lt_f hxy,Bool.and_false,if_neg (by decide)] at I
       exact I)
      go_wp2
      go_quiet ((go_at_call 245; first | exact less_quiet _ _ | exact less_quiet2 _ _))
      go_wp2
      go_roundw
      case rel=>exact ⟨i+1,by omega,by omega,by go_num,(Pq.mk' a2.out G.out a3 a1.out).drewN _⟩
      case measure=>simp [intOf]; omega
    ·have qa:decide ((a:Int) < J)=false:=by simpa using hja
     have G:Hid (Pq g n (fun A=>insOuter ltInt a b (i+1) A=T) w wr):=Lh (u.out.imp fun A _ hA=>by
      cases hJ:J.toNat with
      | zero=>rw [hJ,insInner] at hA; exact hA
      | succ k=>
       rw [hJ,insInner,decide_eq_false (by omega),Bool.false_and,if_neg (by decide)] at hA
       exact hA)
     clear u
     go_wp2
     go_quiet (fail)
     go_wp2
     go_roundw
     case rel=>exact ⟨i+1,by omega,by omega,by go_num,G.out.drewN _⟩
     case measure=>simp [intOf]; omega
  ·have G:Hid (Pq g n (fun A=>PermIn a b D A∧SortedIn ltInt a b A) w wr):=Lh (u.out.imp fun A _ hA=>by
    rw [insOuter,if_neg hlt] at hA
    rw [hA]; exact HS.out)
   clear u
   go_wp2
   go_end0
   exact ⟨rfl,G.out⟩
end Go.Proofs.YtaeemilldmhbnaaGreatDoor.So
namespace Go.Proofs.YtaeemilldmhbnaaGreatDoor.So
open Go.ChangeShapes Go.WideShapes Go.ChangeAt Go.RowKit Rw
open Go.Sort (swp ltInt siftDown heapBuild heapPop heapSort PermIn SortedIn swo_ltInt)
section
variable {hi f r k:Nat} {A:Array Int} {x y z:Int}
end
end Go.Proofs.YtaeemilldmhbnaaGreatDoor.So
namespace Go.Proofs.YtaeemilldmhbnaaGreatDoor.So
open Go.ChangeShapes Go.WideShapes Go.ChangeAt Go.RowKit Rw
open Go.Sort (swp ltInt PermIn SortedIn)
section
variable {p:Int→Bool} {D A:Array Int} {a b:Nat} {pv i j x:Int}
end
end Go.Proofs.YtaeemilldmhbnaaGreatDoor.So
namespace Go.Proofs.YtaeemilldmhbnaaGreatDoor.So
open Go.ChangeShapes Go.WideShapes Go.ChangeAt Go.RowKit Rw
open Go.Sort (swp ltInt PermIn SortedIn partialIns partialInsertionSort scanSorted shiftDown shiftUp swo_ltInt)
section
variable {a b s i:Nat} {A:Array Int} {x y:Int}
end
end Go.Proofs.YtaeemilldmhbnaaGreatDoor.So
namespace Go.Proofs.YtaeemilldmhbnaaGreatDoor.So
open Go.ChangeShapes Go.WideShapes Go.ChangeAt Go.RowKit Rw
end Go.Proofs.YtaeemilldmhbnaaGreatDoor.So
namespace Go.Proofs.YtaeemilldmhbnaaGreatDoor.So
open Go.ChangeShapes Go.WideShapes Go.ChangeAt Go.RowKit Rw
open Go.Sort (swp ltInt PermIn SortedIn)
end Go.Proofs.YtaeemilldmhbnaaGreatDoor.So
namespace Go.Proofs.YtaeemilldmhbnaaGreatDoor.So
open Go.ChangeShapes Go.WideShapes Go.ChangeAt Go.RowKit Rw
open Go.Sort (swp ltInt PermIn SortedIn swo_ltInt)
section
variable {D X Y:Array Int} {a b A B r:Nat} {pv:Int}
theorem ge_of {x y:Int} (h:ltInt x y=false):y≤x:=by have:=of_decide_eq_false h; omega
end
theorem insertion_none' (A:Option Addr) (c:Nat) (w:World) :
  Calls Tryz.prog 239 #[.slice A 0 c,.int .i64 0,.int .i64 0] w fun e w'=>e=.returned (.tuple #[])∧w=w':=by
 go_enter Tryz.func239,Tryz.ntmps239
 go_wp2
 refine wp_loop_rounds 1 ?_
 rw [rounds_succ]
 go_wp2
 go_end0
 exact ⟨rfl,rfl⟩
theorem pdq_none' (A:Option Addr) (c:Nat) (h:Int) (w:World) :
  Calls Tryz.prog 232 #[.slice A 0 c,.int .i64 0,.int .i64 0,.int .i64 h] w fun e w'=>e=.returned (.tuple #[])∧w=w':=by
 go_enter Tryz.func232,Tryz.ntmps232
 go_wp2_with fail
 refine wp_loop_rounds 1 ?_
 rw [rounds_succ]
 go_wp2_with fail
 refine (insertion_none' A c _).mono ?_
 rintro e u ⟨rfl,rfl⟩
 go_wp2_with fail
 refine bodyPost_ret (v:=.tuple #[]) (by simp [results,Tryz.results232]) rfl ?_
 exact ⟨rfl,rfl⟩
theorem len_zero' (w:World):Calls Tryz.prog 233 #[.int .u64 0] w fun e w'=>∃ l:Int,e=.returned (.int .i64 l)∧w=w':=
 (len_any 0 w (by omega)).mono fun e w' ⟨h,u⟩=>⟨_,h,u⟩
theorem sort_none' (A:Option Addr) (c:Nat) (w:World) :
  Calls Tryz.prog 220 #[.slice A 0 c] w fun e w'=>e=.returned (.tuple #[])∧w=w':=by
 go_enter Tryz.func220,Tryz.ntmps220
 go_wp2_with fail
 refine (len_zero' _).mono ?_
 rintro e h ⟨l,rfl,rfl⟩
 go_wp2_with fail
 refine (pdq_none' A c l _).mono ?_
 rintro e u ⟨rfl,rfl⟩
 go_wp2_with fail
 go_end0
 exact ⟨rfl,rfl⟩
theorem bang_get {A:Array Int} {i:Nat} (h:i < A.toList.length):A[i]! = A.toList[i]:=bang (List.getElem?_eq_getElem h)
theorem rises {n:Nat} {D X:Array Int} (hD:D.size=n) (G:X.size=n) (h:PermIn 0 n D X∧SortedIn ltInt 0 n X):X.toList.Perm D.toList∧X.toList.Pairwise (· ≤ ·):=by
 obtain ⟨⟨h1,h2,u⟩,h4⟩:=h
 constructor
 ·have J:X.extract 0 n=X:=by rw [← G]; exact Array.extract_size
  have W:D.extract 0 n=D:=by rw [← hD]; exact Array.extract_size
  rw [J,W] at u
  exact u
 ·rw [List.pairwise_iff_getElem]
  intro i j hi I a0
  have:=ge_of (h4 i j (Nat.zero_le _) a0 (by rw [← G]; simpa using I))
  rw [bang_get hi,bang_get I] at this
  exact this
theorem pdq_small (g n c:Nat) (D:Array Int) (a0:Int) (w:World) (I:D.size=n) (h:Row w g n D.toList) (hn:n≤12) (a1:0 < n) :
  Calls Tryz.prog 232 #[.slice (some ⟨g,0,none⟩) n c,.int .i64 0,.int .i64 n,.int .i64 a0] w fun e w'=>e=.returned (.tuple #[])∧Pq g n (fun X=>PermIn 0 n D X∧SortedIn ltInt 0 n X) w w':=by
 have W:Hid (∀ u:World,Row u g n D.toList→Calls Tryz.prog 239 #[.slice (some ⟨g,0,none⟩) n c,.int .i64 0,.int .i64 n] u fun e w'=>e=.returned (.tuple #[])∧Pq g n (fun X=>PermIn 0 n D X∧SortedIn ltInt 0 n X) u w'):=Lh (fun u h1=>insertion_srt g n c D 0 n u I h1 (Nat.zero_le _) (Nat.le_refl _) (by omega))
 have HR:=Lh h
 clear h I
 go_enter Tryz.func232,Tryz.ntmps232
 go_wp2_with fail
 refine wp_loop_rounds 1 ?_
 rw [rounds_succ]
 have a2:decide ((n:Int)≤12)=true:=decide_eq_true (by omega)
 have a3:decide (n≤12)=true:=decide_eq_true (by omega)
 go_wp2_with fail
 refine (W.out _ HR.out).mono ?_
 rintro e w2 ⟨rfl,G⟩
 have J:=Lh G
 clear G
 go_wp2_with fail
 refine bodyPost_ret (v:=.tuple #[]) (by simp [results,Tryz.results232]) rfl ?_
 exact ⟨rfl,J.out⟩
theorem sort_srt12 (g n c:Nat) (D:Array Int) (w:World) (G:D.size=n) (h:Row w g n D.toList) (hn:n≤12) (a0:0 < n) :
  Calls Tryz.prog 220 #[.slice (some ⟨g,0,none⟩) n c] w fun e w'=>e=.returned (.tuple #[])∧Pq g n (fun X=>PermIn 0 n D X∧SortedIn ltInt 0 n X) w w':=by
 have W:=Lh h
 have J:=Lh G
 have a1:=bitLen_small n (by omega)
 clear h G
 go_enter Tryz.func220,Tryz.ntmps220
 go_wp2_with fail
 refine (len_any n _ (by omega)).mono ?_
 rintro e w1 ⟨rfl,rfl⟩
 go_wp2_with fail
 refine (pdq_small g n c D _ _ J.out W.out hn a0).mono ?_
 rintro e w2 ⟨rfl,u⟩
 have I:=Lh u
 clear u
 go_wp2_with fail
 go_end0
 exact ⟨rfl,I.out⟩
theorem sortS_any (w:World) (base:Nat) (A:Option Addr) (n c:Nat) (h:List Int) (hn:h.length=n) (I:w.ownsRow base 22 1 (.slice A n c) n (h.map (Value.int .u64))) (a3:n≤12) :
  Calls Tryz.prog 220 #[.slice A n c] w fun e w'=>e=.returned (.tuple #[]) ∧ ∃ u:List Int,u.Perm h∧u.Pairwise (· ≤ ·)∧Rd (Value.int .u64) w' w'.heap.size A n c u∧w.grownBy w' (Value.slice A n c).ownBlock:=by
 subst hn
 by_cases h0:h.length=0
 ·obtain rfl:=List.eq_nil_of_length_eq_zero h0
  refine (sort_none' A c w).mono ?_
  rintro e w' ⟨rfl,rfl⟩
  exact ⟨rfl,[],List.Perm.refl _,List.Pairwise.nil,Rd.own_rd I,World.grownBy.refl _ _⟩
 ·rcases I.2 with ⟨_,h1⟩ | ⟨b,cap,a4,hs,a5,hb,a2,a0,a6,a7⟩
  ·omega
  injection hs with hA _ hc
  subst hA hc
  have a1:b < w.heap.size:=(Array.getElem?_eq_some_iff.1 hb).1
  have hR:Row w b h.length h.toArray.toList:=by
   refine ⟨rfl,fun j x hx=>?_,fun j G=>by simp [World.frozen?,hb]⟩
   obtain ⟨G,rfl⟩:=List.getElem?_eq_some_iff.1 hx
   rw [I.cellAt j (by rw [Nat.mul_one]; exact G),List.getElem?_map,List.getElem?_eq_getElem G]
   rfl
  refine (sort_srt12 b h.length c h.toArray w rfl hR a3 (by omega)).mono ?_
  rintro e w' ⟨rfl,X,W,hP,h2,J⟩
  obtain ⟨p1,p2⟩:=rises rfl W hP
  refine ⟨rfl,X.toList,p1,p2,⟨by simpa using W,a2,by unfold maxLen at a0; exact a0,fun _=>⟨b,0,rfl,Nat.lt_of_lt_of_le a1 J.size,fun j x hx=>by rw [Nat.zero_add]; exact h2.cell j x hx⟩⟩,J⟩
end Go.Proofs.YtaeemilldmhbnaaGreatDoor.So
namespace Go.Proofs.YtaeemilldmhbnaaGreatDoor.Iu
open Go Go.ChangeMaps Go.Maps Go.MapKept Go.RowKit Go.Sort Go.Shelf Rw Mt Ba
section
variable {β:Type} {E:Enc β} {P:Program} {k e t:TypeId} {F:Fence} {n:Nat} (w:World) {ops:Array Oper} {rest:List Oper} {o:Oper} {a:Act} {Q:Exit→Act→World→Prop}
theorem range1In (hg:o.guard=none) (m:Operand) (t:TypeId) (a0:o.op=Op.range t m) (k e:TypeId) (hk:P.underlying k=some (.int .u64)) (ht:P.underlying t=some (.map k e)) (b:Nat) (l:List (Int × β)) (hm:a.eval m=.map (some b)) (h:Mo P k E w b l)
  (W:∀ w',Rg P k E w' b w.heap.size l l→w.grownBy w' none→w'.heap.size=w.heap.size+1→wpListIn F n P ops Q rest (a.put o.dst (.pointer (some ⟨w.heap.size,0,none⟩))) w'):wpListIn F n P ops Q (o :: rest) a w:=by
 obtain ⟨⟨D,ho,u⟩,hn⟩:=h
 exact wpListIn_range_own w hg m t a0 k e (int_keyed hk) ht E.R b l.length D hm ho fun w' G I J=>W w' ⟨⟨D,_,_,G,u,u.has⟩,fun _ h=>h,hn,hn⟩ I J
theorem next1In (hg:o.guard=none) (it:Operand) (ad:o.op=Op.next it false) (k:TypeId) (hk:P.underlying k=some (.int .u64)) (b r:Nat) (l left:List (Int × β)) (hit:a.eval it=.pointer (some ⟨r,0,none⟩)) (h:Rg P k E w b r l left)
  (a5:left=[] → wpListIn F n P ops Q rest (a.put o.dst (.tuple #[.bool false])) w)
  (a6:∀ y x w',(y,x)∈left→0≤y∧y≤18446744073709551615→Rg P k E w' b r l (wo left y)→w'.rangeLeft b r < w.rangeLeft b r→w.grownBy w' (some r)→w'.heap.size=w.heap.size →
   (Instr.entry (.pointer (some ⟨r,0,none⟩))).run P w'=.ok (.tuple #[.int .u64 y,E.val x]) w'→wpListIn F n P ops Q rest (a.put o.dst (.tuple #[.bool true,.int .u64 y,E.val x])) w'):wpListIn F n P ops Q (o :: rest) a w:=by
 obtain ⟨⟨D,lf,cnt,a1,hT,J⟩,a3,hn,ac⟩:=h
 refine wpListIn_next_ranges w hg it ad k (int_keyed hk) E.R (Value.int .u64) E.val (fun key kl I=>by obtain ⟨x,rfl,_⟩:=Maps.keyOf_int_inv hk I; exact ⟨x,rfl⟩) (fun v y u=>by obtain ⟨c,rfl,_⟩:=E.inv v y u; exact ⟨c,rfl⟩)
  b r l.length D lf cnt hit a1 (fun _ hl=>a5 ?_) (fun y x kl z w' ah I a0 u a7 a2 aa a9 ae a8=>?_)
 ·cases left with
  | nil=>rfl
  | cons a r=>have:=J a.1; rw [hl] at this; simp at this
 ·obtain ⟨y',G,rfl,af⟩:=Maps.keyOf_int_inv hk I
  injection G with _ G
  subst G
  rw [J,decide_eq_true_eq] at a0
  obtain ⟨x',a4⟩:=mem_key.1 a0
  rw [E.mk_ x] at u
  injection u with u
  have ag:x'=x:=by
   have h1:=hT.hit y x' (a3 _ a4) (.map [])
   rw [a7,← u] at h1
   exact (E.inj _ _ h1).symm
  subst ag
  have hy:0≤y∧y≤18446744073709551615:=by
   simp [Lit.wf,IntKind.min,IntKind.max,IntKind.signed,IntKind.bits] at af
   omega
  refine a6 y x' w' a4 hy ⟨⟨D,_,_,a2,hT,fun q=>?_⟩,fun z hz=>a3 z (mem_wo.1 hz).1,hn,ac.wo y⟩ ?_ a9 ae a8
  ·have e1:(Lit.int .u64 q).sameKey (.int .u64 y)=decide (q=y):=by simp [Lit.sameKey]
   rw [J,e1]
   by_cases hq:q=y
   ·subst hq
    rw [decide_eq_false (wo_key (l:=left))]
    simp
   ·rw [decide_eq_false hq]
    simp only [Bool.not_false,Bool.and_true]
    congr 1
    rw [mem_key,mem_key,eq_iff_iff]
    exact ⟨fun ⟨t',W⟩=>⟨t',mem_wo.2 ⟨W,hq⟩⟩,fun ⟨t',W⟩=>⟨t',(mem_wo.1 W).1⟩⟩
  ·rw [a2.left_eq,a1.left_eq]; exact aa
theorem Rg.walks {w w':World} {b r:Nat} {l left:List (Int × β)} (h:Rg P k E w b r l left) (hk:KeepsWalks w w'):Rg P k E w' b r l left∧w'.rangeLeft b r=w.rangeLeft b r:=by
 obtain ⟨⟨D,lf,cnt,u,G,I⟩,J,W,h6⟩:=h
 exact ⟨⟨⟨D,lf,cnt,u.of_walks hk,G,I⟩,J,W,h6⟩,by rw [(u.of_walks hk).left_eq,u.left_eq]⟩
theorem Rg.iter {w:World} {b r:Nat} {l left:List (Int × β)} (h:Rg P k E w b r l left):∃ o:Obj,w.heap[r]? = some o∧o.isWalk=true:=by
 obtain ⟨⟨D,lf,cnt,u,G,I⟩,J,W,h6⟩:=h
 exact u.iter_walk
end
abbrev eU:Int→Value:=Value.int .u64
theorem keys1 (n:Nat) (hn:1≤n) (l Bm b:Nat) (L:List (Int × Option Nat)) (J:List Int→World→Prop)
  (hY:∀ a1 x W,J a1 W→a1.length < L.length→YieldAt Fence.wide (n - 1) Tryz.prog l #[eU x] W fun e G=>e=.returned (.bool true)∧J (a1 ++ [x]) G∧KeepsWalks W G)
  (W:World) (hJ:AbidesFrom W.heap.size J) (hm:W.cell? ⟨Bm,0,none⟩=some (.map (some b))) (h:MP W b L) (h0:J [] W) :
  CallsIn Fence.wide n Tryz.prog 221 #[.func (.yield l) #[] #[],.pointer (some ⟨Bm,0,none⟩)] W fun e G=>(∃ v,e=.returned v) ∧ ∃ ss:List Int,ss.Perm (L.map Prod.fst)∧J ss G:=by
 refine callsIn_of_wp Tryz.func221 rfl trivial ?_ rfl
 simp only [Tryz.ntmps221,List.size_toArray,List.length_cons,List.length_nil,Nat.reduceAdd,Nat.reduceSub,Array.replicate_succ,Array.replicate_zero,List.push_toArray,List.append_toArray,List.nil_append,List.cons_append]
 gi_wp2_with (first
  | (gi_at_range; refine range1In _ rfl _ 184 rfl 22 201 Tryz.underlying22 Tryz.underlying184 b L rfl h ?_; intro w0 af a6 an)
  | gi_in)
 go_frame
 gi_loopw [3] (fun _ wr=>∃ (left u:List (Int × Option Nat)),Rg Tryz.prog 22 eP wr b W.heap.size L left∧(u ++ left).Perm L∧J (u.map Prod.fst) wr)
  (fun _ wr=>wr.rangeLeft b W.heap.size)
 case atStart=>exact ⟨L,[],af,List.Perm.refl _,hJ [] W w0 none h0 a6 (fun r e=>by cases e)⟩
 case round=>
  obtain ⟨left,u,a0,I,a2⟩:=hrel
  gi_wp2_with (first
   | (gi_at_next; refine next1In _ rfl _ rfl 22 Tryz.underlying22 b W.heap.size L left rfl a0 ?_ ?_)
   | gi_in)
  ·intro a9
   gi_wp2
   go_end0
   rw [a9,List.append_nil] at I
   exact ⟨⟨_,rfl⟩,_,I.map _,a2⟩
  ·intro y x w2 a3 ao aq ag ad a7 ai al
   have a4:J (u.map Prod.fst) w2:=hJ _ wr w2 (some W.heap.size) a2 a7 (fun r e=>by cases e; exact ⟨Nat.le_refl _,Rg.iter a0⟩)
   have ac:(u.map Prod.fst).length < L.length:=by
    have h1:=I.length_eq
    have h2:0 < left.length:=List.length_pos_of_mem a3
    simp at h1 ⊢; omega
   obtain ⟨fn,au,aj,ak,ar,hR⟩:=hY _ y w2 a4 ac
   have ae:=a0.ndl
   clear ai
   gi_wp2
   refine hR.mono ?_
   rintro e W3 ⟨rfl,a5,a8⟩
   gi_wp2
   obtain ⟨ah,aa⟩:=Rg.walks ag a8
   go_roundw
   case rel=>exact ⟨wo left y,u ++ [(y,x)],ah,by rw [List.append_assoc]; exact (List.Perm.append_left u (perm_wo ae a3).symm).trans I,by simpa using a5⟩
   case measure=>rw [aa]; exact ad
theorem keys_in (n:Nat) (h:Option Nat) (w:World) :
  CallsIn Fence.wide n Tryz.prog 191 #[.map h] w fun e w'=>e=.returned (.func (.func 221) #[] #[.pointer (some ⟨w.heap.size,0,none⟩)])∧w'=w.alloc (.cells #[.map h] 184):=by
 refine callsIn_of_wp Tryz.func191 rfl trivial ?_ rfl
 simp only [Tryz.ntmps191,List.size_toArray,List.length_cons,List.length_nil,Nat.reduceAdd,Nat.reduceSub,Array.replicate_succ,Array.replicate_zero,List.push_toArray,List.append_toArray,List.nil_append,List.cons_append]
 gi_wp2
 go_ret
 exact ⟨rfl,rfl⟩
theorem keys_gives (n:Nat) (hn:1≤n) (u b:Nat) (L:List (Int × Option Nat)) (w:World) (a0:u < w.heap.size) (hm:w.cell? ⟨u,0,none⟩=some (.map (some b))) (h:MP w b L) :
  SeqGives Fence.wide n Tryz.prog 221 #[.pointer (some ⟨u,0,none⟩)] eU (fun ss=>ss.Perm (L.map Prod.fst)) L.length w:=fun l J W G hJ hY I=>
 keys1 n hn l u b L J hY W hJ ((G.cell (p:=⟨u,0,none⟩) a0).trans hm) (h.below G h.lt) I
def ren:Ren:={ f:=fun _=>0,t:=fun k=>if k=24 then 38 else if k=26 then 22 else 0,g:=fun x=>x }
abbrev rec_ (fn:FuncId) (sv:Value) (Bs D:Nat) (st:LoopState) (pend:Option Code):Loop:=AnyZI.apRec ren fn sv Bs D st pend
structure Ap (w0:World) (fn:FuncId) (sv:Value) (Bs l D:Nat) (ss:List Int) (W:World):Prop where
 box:∃ v,W.heap[Bs]? = some (.cells #[v] 38 (0,0))∧W.ownsRow w0.heap.size 22 1 v ss.length (ss.map eU)
 L:W.heap[l]? = some (.loop (rec_ fn sv Bs D .ready none))
 K:W.heap[D]? = some (.deferred (some []))
 below:Below w0.heap.size w0 W
theorem ap_abides (w0:World) (fn:FuncId) (sv:Value) (Bs l D B:Nat) (hB:w0.heap.size≤B):AbidesFrom B (Ap w0 fn sv Bs l D):=fun s W W' row h u I=>by
 have G:∀ r,row=some r → ∃ o:Obj,W.heap[r]? = some o∧o.isWalk=true:=fun r e=>(I r e).2
 obtain ⟨v,J,hr⟩:=h.box
 exact ⟨⟨v,(grownBy_keeps u G J rfl).trans J,ownsRow_abides_a hr u G⟩,(grownBy_keeps u G h.L rfl).trans h.L,(grownBy_keeps u G h.K rfl).trans h.K,
  h.below.grown u h.below.size (fun k e=>Nat.le_trans hB (I k e).1)⟩
theorem ne_box {W:World} {base:Nat} {v:Value} {k:Nat} {xs:List Value} (h:W.ownsRow base 22 1 v k xs) {j:Nat} {o:Obj} (I:W.heap[j]? = some o) (J:∀ u,o≠.cells u 22 (0,0)):some j≠v.ownBlock:=by
 rcases ownsRow_ne_a h I J with e | e
 ·rw [e]; simp
 ·exact fun G=>e G.symm
theorem ap_yield (m:Nat) (G:World) (fn:FuncId) (sv:Value) (Bs l D:Nat) (ac:Bs≠l) (ai:D≠l) (ax:D≠Bs) (av:G.heap.size≤Bs) (ah:G.heap.size≤l)
  (N:Nat) (hN:N≤1000000) (I:List Int) (x:Int) (W:World) (h:Ap G fn sv Bs l D I W) (aP:I.length < N) :
  YieldAt Fence.wide m Tryz.prog l #[eU x] W fun e W'=>e=.returned (.bool true)∧Ap G fn sv Bs l D (I ++ [x]) W'∧KeepsWalks W W':=by
 obtain ⟨i0,hi,aG,aH,aI⟩:=info_parts Sl.info_u64
 obtain ⟨v,hv,ar⟩:=h.box
 refine ⟨fn,#[.slice none 0 0,sv,.pointer (some ⟨Bs,0,none⟩),undef,.slice none 0 0,undef,sv,eU x,undef,undef,undef,undef,undef],AnyZI.apAssign ren,AnyZI.apBody ren,by simpa [AnyZI.apRec] using run_yield (P:=Tryz.prog) (args:=#[eU x]) h.L rfl,roundIn_of_wpIn (show Fence.wide.fn fn from trivial) ?_⟩
 have hl:l < W.heap.size:=(Array.getElem?_eq_some_iff.1 h.L).1
 have aA:=run_beginRound (P:=Tryz.prog) h.L rfl
 obtain ⟨u,a1⟩:∃ u,W.putObj l (.loop { rec_ fn sv Bs D .ready none with state:=.busy })=u:=⟨_,rfl⟩
 rw [a1] at aA
 have ao:W.grownBy u (some l):=by rw [← a1]; exact grownBy_putObj_a _ _ _
 have aB:KeepsWalks W u:=by rw [← a1]; exact KeepsWalks.putObj _ h.L rfl
 have aa:u.heap[Bs]? = some (.cells #[v] 38 (0,0)):=by rw [← a1]; exact (World.putObj_heap_other ac).trans hv
 have ad:u.heap[D]? = some (.deferred (some [])):=by rw [← a1]; exact (World.putObj_heap_other ai).trans h.K
 have ae:u.heap[l]? = some (.loop { rec_ fn sv Bs D .ready none with state:=.busy }):=by rw [← a1]; exact World.putObj_heap_same hl
 have a2:u.ownsRow G.heap.size 22 1 v I.length (I.map eU):=ar.kept ao (ownsRow_ne_a ar h.L (fun a3 e=>by cases e))
 have a7:Below G.heap.size G u:=h.below.grown ao h.below.size (fun k e=>by cases e; exact ah)
 obtain ⟨aK,aM⟩:=cell_of_box_a aa
 have aw:Bs < u.heap.size:=(Array.getElem?_eq_some_iff.1 aa).1
 have aD:l < u.heap.size:=(Array.getElem?_eq_some_iff.1 ae).1
 have ay:D < u.heap.size:=(Array.getElem?_eq_some_iff.1 ad).1
 have n1:=ne_box a2 aa (fun a3 e=>by cases e)
 have n2:=ne_box a2 ae (fun a3 e=>by cases e)
 have n3:=ne_box a2 ad (fun a3 e=>by cases e)
 clear a1
 unfold AnyZI.apAssign
 simp only [ren,reduceIte,Nat.reduceEqDiff]
 gi_wp2_with gi_round_op_a
 unfold AnyZI.apBody
 simp only [reduceIte,Nat.reduceEqDiff]
 gi_wp2_with (first
  | (gi_at_builtin; refine wpListIn_append_own _ rfl _ _ 38 rfl G.heap.size 22 i0 (.int .u64 0) 1 8 Tryz.underlying38 hi aG aH aI rfl (by decide) _ _ _ rfl (a2.alloc _) ⟨u.heap.size,0,none⟩ 1 1 [eU x] rfl rfl (cell_one_new _ _ _) (by simp [Value.oneCell']) (by unfold maxLen; omega) (by omega) (by have:=a7.size; simp; omega) ?_; intro v' w3 af aq aQ
     have ag:w3.heap[Bs]? = some (.cells #[v] 38 (0,0)):=(aq.block Bs (by simp; omega) n1).trans ((Below.heap_alloc _ _ Bs aw).trans aa)
     obtain ⟨aL,aN⟩:=cell_of_box_a ag
     obtain ⟨g',a0,a5,rfl,aJ,aO,aR,aS,aT,aU⟩:∃ g' a0 a5,v'=.slice (some ⟨g',0,none⟩) (I.length+1) a0∧G.heap.size≤g'∧w3.heap[g']? = some (.cells a5 22 (0,0))∧I.length+1≤a0∧a0≤maxLen∧a5.size=a0 * 1∧a5.toList.take ((I.length+1) * 1)=I.map eU ++ [eU x]:=by
      rcases af.2 with ⟨_,h0⟩ | h'
      ·exact absurd h0 (by omega)
      ·exact h'
     go_frame)
  | gi_round_op_a)
 have a8:(u.alloc (.cells #[eU x] 22)).grownBy w3 v.ownBlock:=aq
 have ak:w3.heap[l]? = some (.loop { rec_ fn sv Bs D .ready none with state:=.busy }):=(a8.block l (by simp; omega) n2).trans ((Below.heap_alloc _ _ l aD).trans ae)
 have aj:w3.heap[D]? = some (.deferred (some [])):=(a8.block D (by simp; omega) n3).trans ((Below.heap_alloc _ _ D ay).trans ad)
 obtain ⟨J,a4⟩:∃ J,w3.setCell ⟨Bs,0,none⟩ (.slice (some ⟨g',0,none⟩) (I.length+1) a0)=J:=⟨_,rfl⟩
 rw [a4]
 have a9:w3.grownBy J (some Bs):=by rw [← a4]; exact grownBy_setCell0_a _ _ _
 have aF:J.heap[Bs]? = some (.cells #[.slice (some ⟨g',0,none⟩) (I.length+1) a0] 38 (0,0)):=by rw [← a4]; exact heap_setCell_box_a _ ag
 have a6:J.heap[l]? = some (.loop { rec_ fn sv Bs D .ready none with state:=.busy }):=(a9.block l (Array.getElem?_eq_some_iff.1 ak).1 (fun e=>ac (by cases e; rfl))).trans ak
 have az:J.heap[D]? = some (.deferred (some [])):=(a9.block D (Array.getElem?_eq_some_iff.1 aj).1 (fun e=>ax (by cases e; rfl))).trans aj
 have au:=af.kept a9 (ownsRow_ne_a af ag (fun a3 e=>by cases e))
 have aE:l < J.heap.size:=(Array.getElem?_eq_some_iff.1 a6).1
 have al:Below G.heap.size G w3:=(a7.alloc a7.size _).grown a8 (by have:=a7.size; simp; omega) (fun k e=>(a2.lt k e).1)
 have an:Below G.heap.size G J:=al.grown a9 al.size (fun k e=>by cases e; exact av)
 have aC:KeepsWalks W J:=((aB.trans (KeepsWalks.alloc _ _)).trans (KeepsWalks.of_grownBy a8 (ownsRow_not_walk_a (a2.alloc _)))).trans (by rw [← a4]; exact KeepsWalks.setCell _ _ _)
 clear a4
 refine ⟨_,_,run_endRound none a6,rfl,⟨⟨_,(World.putObj_heap_other ac).trans aF,?_⟩,World.putObj_heap_same aE,(World.putObj_heap_other ai).trans az,an.grown (grownBy_putObj_a _ _ _) an.size (fun k e=>by cases e; exact ah)⟩,aC.trans (KeepsWalks.putObj _ a6 rfl)⟩
 have:=au.kept (grownBy_putObj_a J l (.loop { { rec_ fn sv Bs D .ready none with state:=.busy } with state:=if (none:Option Code).isNone then .ready else .done,pending:=none })) (ownsRow_ne_a au a6 (fun a3 e=>by cases e))
 simpa using this
theorem appendSeq_in (n:Nat) (hn:2≤n) (g:Nat) (lb:Array Value) (eg:∀ args w,(callFunc g args).run Tryz.prog w=.ok (.enter g args) w)
  (S:List Int→Prop) (N:Nat) (hN:N≤1000000) (w:World) (ae:SeqGives Fence.wide (n - 1) Tryz.prog g lb eU S N w) :
  CallsIn Fence.wide n Tryz.prog 231 #[.slice none 0 0,.func (.func g) #[] lb] w fun e w'=>∃ (v:Value) (ss:List Int),e=.returned v∧S ss∧w'.ownsRow w.heap.size 22 1 v ss.length (ss.map eU)∧Below w.heap.size w w':=by
 have h1:1≤n:=by omega
 refine callsIn_of_wp_marks Tryz.func231 rfl trivial ?_ rfl
 simp only [Tryz.ntmps231,List.size_toArray,List.length_cons,List.length_nil,Nat.reduceAdd,Nat.reduceSub,Array.replicate_succ,Array.replicate_zero,List.push_toArray,List.append_toArray,List.nil_append,List.cons_append]
 gi_wp2
 refine wpIn_rangeFunc ?_
 intro fn al
 obtain ⟨h,a1⟩:∃ h,w.alloc (.cells #[.slice none 0 0] 38)=h:=⟨_,rfl⟩
 have ad:h.heap.size=w.heap.size+1:=by rw [← a1]; simp
 have af:h.heap[w.heap.size]? = some (.cells #[.slice none 0 0] 38 (0,0)):=by rw [← a1]; exact World.alloc_heap_new w _
 have a2:Below w.heap.size w h:=by rw [← a1]; exact (Below.refl _ w).alloc (Nat.le_refl _) _
 rw [a1]
 obtain ⟨u,J⟩:∃ u,(h.alloc (.deferred (some []))).alloc (.loop (rec_ fn (.func (.func g) #[] lb) w.heap.size h.heap.size .ready none))=u:=⟨_,rfl⟩
 have ac:∀ k,k < h.heap.size→u.heap[k]? = h.heap[k]?:=fun k hk=>by
  rw [← J]; exact (Below.heap_alloc _ _ k (by simp; omega)).trans (Below.heap_alloc _ _ k hk)
 have a3:Below w.heap.size w u:=by rw [← J]; exact (a2.alloc a2.size _).alloc (by have:=a2.size; simp; omega) _
 have an:u.heap.size=h.heap.size+2:=by rw [← J]; simp
 have hM:Ap w fn (.func (.func g) #[] lb) w.heap.size (h.heap.size+1) h.heap.size [] u:=
  ⟨⟨_,(ac w.heap.size (by omega)).trans af,⟨rfl,.inl ⟨rfl,rfl⟩⟩⟩,
   by rw [← J]; have:=World.alloc_heap_new (h.alloc (.deferred (some []))) (.loop (rec_ fn (.func (.func g) #[] lb) w.heap.size h.heap.size .ready none)); rwa [World.size_alloc] at this,
   by rw [← J]; exact (Below.heap_alloc _ _ _ (by simp)).trans (World.alloc_heap_new h _),a3⟩
 refine ⟨h.heap.size+1,[{ target:=.collected h.heap.size,args:=#[] }],u,{ target:=.fn (.func g) lb,args:=#[.func (.yield (h.heap.size+1)) #[] #[]] },u,g,
  #[.func (.yield (h.heap.size+1)) #[] #[]] ++ lb,u,?_,?_,?_,?_,fun _=>h1,?_⟩
 ·rw [← J]; exact run_enterLoop_outer _ _ _ _ _
 ·simp [resolve,go_sem]
 ·intro f' aj; trivial
 ·simp [invoke,go_sem,eg]
 ·refine (ae (h.heap.size+1) (Ap w fn (.func (.func g) #[] lb) w.heap.size (h.heap.size+1) h.heap.size) u a3 (ap_abides _ _ _ _ _ _ _ a3.size)
   (fun ah x W hJ hl=>ap_yield (n - 1 - 1) w fn _ w.heap.size (h.heap.size+1) h.heap.size (by omega) (by omega) (by omega) (Nat.le_refl _) (by omega) N hN ah x W hJ hl) hM).mono ?_
  rintro e W2 ⟨⟨v0,rfl⟩,ss,hS,I⟩
  obtain ⟨v,hv,a8⟩:=I.box
  have a6:=run_endLoop (P:=Tryz.prog) I.L (by simp [AnyZI.apRec])
  obtain ⟨G,a0⟩:∃ G,W2.putObj (h.heap.size+1) (.loop { rec_ fn (.func (.func g) #[] lb) w.heap.size h.heap.size .ready none with state:=.exhausted })=G:=⟨_,rfl⟩
  rw [a0] at a6
  have a7:W2.grownBy G (some (h.heap.size+1)):=by rw [← a0]; exact grownBy_putObj_a _ _ _
  have ag:G.heap[w.heap.size]? = some (.cells #[v] 38 (0,0)):=by rw [← a0]; exact (World.putObj_heap_other (by omega)).trans hv
  have a4:G.heap[h.heap.size]? = some (.deferred (some [])):=by rw [← a0]; exact (World.putObj_heap_other (by omega)).trans I.K
  have a9:=a8.kept a7 (ownsRow_ne_a a8 I.L (fun aa e=>by cases e))
  have a5:Below w.heap.size w G:=I.below.grown a7 I.below.size (fun k e=>by cases e; omega)
  obtain ⟨ai,ak⟩:=cell_of_box_a ag
  clear a0
  refine ⟨none,G,a6,?_⟩
  gi_wp2
  rw [← ad]
  refine ⟨by simp,.inl ⟨_,_,rfl,run_takeDeferred a4,?_⟩⟩
  exact ⟨_,results_tmp rfl _ _ _,v,ss,rfl,hS,a9.kept (grownBy_putObj_a _ _ _) (ownsRow_ne_a a9 a4 (fun aa e=>by cases e)),a5.grown (grownBy_putObj_a _ _ _) a5.size (fun k e=>by cases e; omega)⟩
theorem collect_any (g:Nat) (lb:Array Value) (W:∀ args w,(callFunc g args).run Tryz.prog w=.ok (.enter g args) w)
  (S:List Int→Prop) (N:Nat) (hN:N≤1000000) (w:World) (J:SeqGives Fence.wide 3 Tryz.prog g lb eU S N w) :
  Calls Tryz.prog 219 #[.func (.func g) #[] lb] w fun e w'=>∃ (v:Value) (h:List Int),e=.returned v∧S h∧w'.ownsRow w.heap.size 22 1 v h.length (h.map eU)∧Below w.heap.size w w':=by
 have H:=Lh (callsIn_wide.1 (appendSeq_in 4 (by omega) g lb W S N hN w J))
 clear J
 go_enter Tryz.func219,Tryz.ntmps219
 go_wp2_with fail
 refine H.out.mono ?_
 rintro e w' ⟨v,h,rfl,G,I,hb⟩
 have u:=Lh (And.intro G I)
 clear G I
 go_wp2_with fail
 go_ret
 exact ⟨v,h,rfl,u.out.1,u.out.2,hb⟩
theorem sorted_in (g:Nat) (lb:Array Value) (eg:∀ args w,(callFunc g args).run Tryz.prog w=.ok (.enter g args) w)
  (S:List Int→Prop) (N:Nat) (hN:N≤12) (hS:∀ h,S h→h.length≤N) (w:World) (a4:SeqGives Fence.wide 3 Tryz.prog g lb eU S N w) :
  Calls Tryz.prog 190 #[.func (.func g) #[] lb] w fun e w'=>∃ (A:Option Addr) (c:Nat) (h ks:List Int),e=.returned (.slice A ks.length c)∧S h∧ks.Perm h∧ks.Pairwise (· ≤ ·)∧Rd (Value.int .u64) w' w'.heap.size A ks.length c ks∧Below w.heap.size w w':=by
 have HC:=Lh (collect_any g lb eg S N (by omega) w a4)
 have HS:=Lh hS
 clear hS a4
 go_enter Tryz.func190,Tryz.ntmps190
 go_wp2_with fail
 refine HC.out.mono ?_
 rintro e w1 ⟨v,h,rfl,I,G,hb⟩
 obtain ⟨A,c,rfl⟩:=own_slice G
 have hl:=HS.out h I
 have W:=Lh G
 have J:=Lh hb
 have a8:=Lh I
 clear G hb I
 go_wp2_with fail
 refine (So.sortS_any w1 w.heap.size A h.length c h rfl W.out (by omega)).mono ?_
 rintro e w2 ⟨rfl,ks,u,a3,a2,a0⟩
 have a1:=u.length_eq
 have HP:=Lh u
 have a7:=Lh a3
 have a6:=Lh a2
 have a5:=Lh a0
 clear u a3 a2 a0
 go_wp2_with fail
 go_ret
 exact ⟨A,c,h,ks,by rw [a1]; rfl,a8.out,HP.out,a7.out,by rw [a1]; exact a6.out,J.out.grown a5.out J.out.size (fun k hk=>(W.out.lt k hk).1)⟩
theorem rising_eq {a b:List Int} (I:a.Perm b) (ha:a.Pairwise (· ≤ ·)) (hb:b.Pairwise (· < ·)):a=b:=
 I.eq_of_pairwise (fun x y _ _ u G=>Int.le_antisymm u G) ha (hb.imp (fun h=>Int.le_of_lt h))
theorem ids_any {C R:Nat→Prop} (w:World) (p a:Nat) (D:List (Int × Ex)) (S:List Int) (h:Bx C R w p a D S) (hl:D.length≤12) :
  Calls Tryz.prog 139 #[ptr p] w fun e w'=>∃ A c,e=.returned (.slice A D.length c)∧Rd (Value.int .u64) w' w'.heap.size A D.length c (D.map Prod.fst)∧Below w.heap.size w w':=by
 obtain ⟨L,h,rfl⟩:=h
 have c0:=h.c0
 have HM:=Lh h.mo
 have a4:=Lh (ris_keys.1 h.ri)
 have a7:=h.lt
 have hw:Below w.heap.size w (w.alloc (.cells #[.map (some a)] 184)):=(Below.refl _ w).alloc (Nat.le_refl _) _
 have a5:=Lh (keys_gives 3 (by omega) w.heap.size a (bl L) (w.alloc (.cells #[.map (some a)] 184)) (by simp) (by simp) (h.mo.later hw))
 have HW:=Lh hw
 have a6:(bl L).length≤12:=by simpa [bl] using hl
 clear h hw
 go_enter Tryz.func139,Tryz.ntmps139
 go_wp2_with fail
 refine (callsIn_wide.1 (keys_in 3 (some a) w)).mono ?_
 rintro e w1 ⟨rfl,rfl⟩
 go_wp2_with fail
 refine (sorted_in _ _ (enters_of Tryz.func221 (by kernel_rfl) rfl) _ (bl L).length a6 (fun ss u=>by rw [u.length_eq]; simp) _ a5.out).mono ?_
 rintro e w2 ⟨A,c,ss,ks,rfl,u,W,a1,a0,hb⟩
 have G:ks=(ab L).map Prod.fst:=by
  have h1:((bl L).map Prod.fst).Pairwise (· < ·):=by rw [bl_keys]; exact a4.out
  have h2:=rising_eq (W.trans u) a1 h1
  rw [h2,bl_keys]
  simp [ab,Function.comp_def]
 have J:ks.length=(ab L).length:=by rw [G]; simp
 have a2:=Lh G
 have a3:=Lh a0
 have HB:=Lh (HW.out.trans (hb.mono (by simp)))
 have I:=Lh J
 clear u W a1 a0 hb G J
 go_wp2_with fail
 go_ret
 exact ⟨A,c,by rw [← I.out]; rfl,by rw [← I.out,← a2.out]; exact a3.out,HB.out⟩
end Go.Proofs.YtaeemilldmhbnaaGreatDoor.Iu
