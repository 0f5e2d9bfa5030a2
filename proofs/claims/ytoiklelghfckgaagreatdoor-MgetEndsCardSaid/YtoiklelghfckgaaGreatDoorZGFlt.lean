/- A part of the claim: the texts LayFloat Flt FltB FltC FltD. -/
import Derived.Test.YtoiklelghfckgaaGreatDoorProg
import Derived.Test.YtoiklelghfckgaaGreatDoorZBase1
import GoSem.PinnedTables
import GoSem.Claim
import GoSem.ClaimJoined
import GoSem.ClaimMapViews
import Derived.JoinedTies
import Derived.Shelf.Strconv.Itoa3
import Derived.Shelf.Bits.Mul64
import Derived.WalkKit
import Derived.ProofKit
import Derived.BigGuardPart
import Derived.Outline
import Derived.Lib.Hide
import Derived.WalkSpells
import Derived.RegionTactic
import Derived.Deep.QuietTactic
import Derived.BigQuiet
set_option maxRecDepth 100000
set_option maxHeartbeats 8000000
set_option linter.unusedVariables false
namespace Go.Proofs.YtoiklelghfckgaaGreatDoor.Ff
open Go.ChangeShapes Go.WideShapes Go.ChangeAt Go.RowKit Rw Go.Shelf Go.Sort
def ffF (k:Nat):Nat:=if k=129 then 288 else if k=264 then 368 else if k=284 then 314 else if k=285 then 315 else if k=317 then 322 else if k=318 then 323 else 0
def ffT (k:Nat):Nat:=if k=0 then 0 else if k=2 then 2 else if k=3 then 3 else if k=4 then 4 else if k=5 then 5 else if k=9 then 9 else if k=37 then 22 else if k=46 then 137 else if k=51 then 334 else if k=53 then 25 else if k=212 then 368 else 0
def ffG (k:Nat):Nat:=if k=17 then 2 else 0
def ffRen:Ren:={ f:=ffF,t:=ffT,g:=ffG }
theorem ffMul:Lays.n264 Tryz.prog ffRen:={
 mixed:=by kernel_rfl
 f264:=by kernel_rfl
 t46:=by kernel_rfl
 a46:=fun w=>by kernel_rfl
 z46:=fun w=>by kernel_rfl
 v46:=fun w=>by kernel_rfl
 t53:=by kernel_rfl
 a53:=fun w=>by kernel_rfl
 z53:=fun w=>by kernel_rfl
 v53:=fun w=>by kernel_rfl }
theorem ffBase:Lays.n285 Tryz.prog ffRen:={
 mixed:=by kernel_rfl
 f285:=by kernel_rfl
 t0:=by kernel_rfl
 a0:=fun w=>by kernel_rfl
 z0:=fun w=>by kernel_rfl
 v0:=fun w=>by kernel_rfl
 t3:=by kernel_rfl
 a3:=fun w=>by kernel_rfl
 z3:=fun w=>by kernel_rfl
 v3:=fun w=>by kernel_rfl
 t4:=by kernel_rfl
 a4:=fun w=>by kernel_rfl
 z4:=fun w=>by kernel_rfl
 v4:=fun w=>by kernel_rfl
 t5:=by kernel_rfl
 a5:=fun w=>by kernel_rfl
 z5:=fun w=>by kernel_rfl
 v5:=fun w=>by kernel_rfl
 t9:=by kernel_rfl
 a9:=fun w=>by kernel_rfl
 z9:=fun w=>by kernel_rfl
 v9:=fun w=>by kernel_rfl
 t37:=by kernel_rfl
 a37:=fun w=>by kernel_rfl
 z37:=fun w=>by kernel_rfl
 v37:=fun w=>by kernel_rfl
 t51:=by kernel_rfl
 a51:=fun w=>by kernel_rfl
 z51:=fun w=>by kernel_rfl
 v51:=fun w=>by kernel_rfl
 t53:=by kernel_rfl
 a53:=fun w=>by kernel_rfl
 z53:=fun w=>by kernel_rfl
 v53:=fun w=>by kernel_rfl }
def nud (u d:Int):Int:=IntKind.u64.wrap (u+IntKind.u64.wrap d)
def cei (u:Int):Int:=IntKind.u64.wrap (u+3) / 4
def flo (u:Int):Int:=IntKind.u64.wrap u / 4
def rou (u:Int):Int:=IntKind.u64.wrap (IntKind.u64.wrap (u+1)+bits BinOp.and IntKind.u64 (u / 4) 1) / 4
theorem wrap_in (x:Int):0≤IntKind.u64.wrap x∧IntKind.u64.wrap x < 18446744073709551616:=by rw [IntKind.wrap_u64]; omega
theorem cei_in (u:Int):0≤cei u∧cei u < 4611686018427387904:=by have:=wrap_in (u+3); unfold cei; omega
theorem flo_in (u:Int):0≤flo u∧flo u < 4611686018427387904:=by have:=wrap_in u; unfold flo; omega
theorem nudge_any (u d:Int) (w:World):Calls Tryz.prog 355 #[.int .u64 u,.int .i64 d] w fun e w'=>e=.returned (.int .u64 (nud u d))∧w'=w:=by
 go_enter Tryz.func355,Tryz.ntmps355
 go_wp2_with fail
 go_ret
 exact ⟨rfl,rfl⟩
theorem ceil_any (u:Int) (w:World):Calls Tryz.prog 356 #[.int .u64 u] w fun e w'=>e=.returned (.int .u64 (cei u))∧w'=w:=by
 go_enter Tryz.func356,Tryz.ntmps356
 go_wp2_with fail
 go_ret
 exact ⟨rfl,rfl⟩
theorem floor_any (u:Int) (w:World):Calls Tryz.prog 357 #[.int .u64 u] w fun e w'=>e=.returned (.int .u64 (flo u))∧w'=w:=by
 go_enter Tryz.func357,Tryz.ntmps357
 go_wp2_with fail
 go_ret
 exact ⟨rfl,rfl⟩
theorem round_any (u:Int) (w:World):Calls Tryz.prog 358 #[.int .u64 u] w fun e w'=>e=.returned (.int .u64 (rou u))∧w'=w:=by
 go_enter Tryz.func358,Tryz.ntmps358
 go_wp2_with fail
 go_ret
 exact ⟨rfl,rfl⟩
theorem log2_any (x:Int) (w:World) (h:-2000≤x) (u:x≤2000):Calls Tryz.prog 353 #[.int .i64 x] w fun e w'=>e=.returned (.int .i64 (x * 108853 / 32768))∧w'=w:=by
 go_enter Tryz.func353,Tryz.ntmps353
 go_wp2_with fail
 go_ret
 exact ⟨rfl,rfl⟩
theorem skewed_any (x:Int) (w:World) (h:-2000≤x) (u:x≤2000):Calls Tryz.prog 351 #[.int .i64 x] w fun e w'=>e=.returned (.int .i64 ((x * 631305 - 261663) / 2097152))∧w'=w:=by
 go_enter Tryz.func351,Tryz.ntmps351
 go_wp2_with fail
 go_ret
 exact ⟨rfl,rfl⟩
def b1 (b:Bool):Int:=if b=true then 1 else 0
theorem bool2u_any (b:Bool) (w:World):Calls Tryz.prog 369 #[.bool b] w fun e w'=>e=.returned (.int .u64 (b1 b))∧w'=w:=by
 cases b <;> (
  go_enter Tryz.func369,Tryz.ntmps369
  go_wp2_with fail
  go_ret
  exact ⟨rfl,rfl⟩)
theorem bool2u_quiet {w:World} {k:Nat} (b:Bool):Calls Tryz.prog 369 #[.bool b] (w.drewN k) fun e z=>e=.returned (.int .u64 (b1 b)) ∧ ∃ m,z=w.drewN m:=
 (bool2u_any b _).mono fun _ _ ⟨h,u⟩=>⟨h,k,u⟩
def mhi (x y:Nat):Int:=((x * y / 18446744073709551616:Nat):Int)
def mlo (x y:Nat):Int:=((x * y % 18446744073709551616:Nat):Int)
theorem mhi_in {x y:Nat} (hx:x < 18446744073709551616) (u:y < 18446744073709551616):0≤mhi x y∧mhi x y < 18446744073709551616:=by
 unfold mhi
 have h:x * y < 18446744073709551616 * 18446744073709551616:=Nat.mul_lt_mul'' hx u
 have z:x * y / 18446744073709551616 < 18446744073709551616:=Nat.div_lt_of_lt_mul h
 omega
theorem mlo_in (x y:Nat):0≤mlo x y∧mlo x y < 18446744073709551616:=by unfold mlo; omega
theorem mul_any (x y:Nat) (hx:x < 18446744073709551616) (h:y < 18446744073709551616) (w:World) :
  Calls Tryz.prog 368 #[.int .u64 x,.int .u64 y] w fun e w'=>e=.returned (.tuple #[.int .u64 (mhi x y),.int .u64 (mlo x y)])∧w'=w:=
 Any.bits_Mul64 ffMul x y hx h w
def usc (x h l:Nat) (q:Int):Int:=
 if IntKind.u64.wrap (mhi x h / 2 ^ q.toNat * 2 ^ q.toNat)≠mhi x h then bits BinOp.or IntKind.u64 (mhi x h / 2 ^ q.toNat) 1
 else bits BinOp.or IntKind.u64 (IntKind.u64.wrap (mhi x h - b1 (decide (mlo x h < mhi x l))) / 2 ^ q.toNat) (b1 (decide (1 < IntKind.u64.wrap (mlo x h - mhi x l))))
theorem uscale_any (x h l:Nat) (s:Int) (g:Nat) (w:World) (hx:x < 18446744073709551616) (F:h < 18446744073709551616) (G:l < 18446744073709551616)
  (c0:w.cell? ⟨g,0,none⟩=some (.int .u64 h)) (c1:w.cell? ⟨g,1,none⟩=some (.int .u64 l)) (c2:w.cell? ⟨g,2,none⟩=some (.int .i64 s))
  (q:Int) (hq:bits BinOp.and IntKind.i64 s 63=q) (a0:0≤q) (a1:q≤63) :
  Calls Tryz.prog 354 #[.int .u64 x,.pointer (some ⟨g,0,none⟩)] w fun e w'=>e=.returned (.int .u64 (usc x h l q)) ∧ ∃ n,w'=w.drewN n:=by
 have I:=mul_any x h hx F
 have Y:=mul_any x l hx G
 obtain ⟨B1,B2⟩:=mhi_in hx F
 obtain ⟨b3,b4⟩:=mhi_in hx G
 obtain ⟨b5,b6⟩:=mlo_in x h
 unfold usc
 generalize mhi x h=H at *
 generalize mlo x h=M at *
 generalize mhi x l=K at *
 obtain ⟨T1,u⟩:∃ T,b1 (decide (M < K))=T:=⟨_,rfl⟩
 obtain ⟨T2,z⟩:∃ T,b1 (decide (1 < IntKind.u64.wrap (M - K)))=T:=⟨_,rfl⟩
 rw [u,z]
 by_cases e1:IntKind.u64.wrap (H / 2 ^ q.toNat * 2 ^ q.toNat)=H
 ·have J:(IntKind.u64.wrap (H / 2 ^ q.toNat * 2 ^ q.toNat) != H)=false:=by simp [e1]
  rw [if_neg (by simp [e1])]
  clear e1
  go_enter Tryz.func354,Tryz.ntmps354
  go_wp2_with fail
  refine (I _).mono ?_
  rintro e w' ⟨rfl,rfl⟩
  go_wp2_with fail
  refine (Y _).mono ?_
  rintro e w' ⟨rfl,rfl⟩
  go_wp2_with fail
  refine (bool2u_any _ _).mono ?_
  rintro e w' ⟨rfl,rfl⟩
  rw [u]
  go_wp2_with fail
  go_quiet ((go_at_call 369; refine (bool2u_quiet _).mono ?_; rintro e w2 ⟨rfl,W⟩; rw [z]; exact ⟨rfl,W⟩))
  go_wp2_with fail
  go_ret
  exact ⟨rfl,_,rfl⟩
 ·have J:(IntKind.u64.wrap (H / 2 ^ q.toNat * 2 ^ q.toNat) != H)=true:=by simpa using e1
  rw [if_pos e1]
  clear e1
  go_enter Tryz.func354,Tryz.ntmps354
  go_wp2_with fail
  refine (I _).mono ?_
  rintro e w' ⟨rfl,rfl⟩
  go_wp2_with fail
  go_ret
  exact ⟨rfl,0,rfl⟩
def Pw (hi lo:Nat→Nat) (w:World):Prop:=∀ i,i < 696→hi i < 18446744073709551616∧lo i < 18446744073709551616∧7 < w.heap.size∧w.cell? ⟨7,i * 2,none⟩=some (.int .u64 (hi i))∧w.cell? ⟨7,i * 2+1,none⟩=some (.int .u64 (lo i))
theorem Pw.below {hi lo:Nat→Nat} {w w':World} (h:Pw hi lo w) (u:Below w.heap.size w w'):Pw hi lo w':=fun i z=>by
 obtain ⟨a,b,c,d,e⟩:=h i z
 exact ⟨a,b,Nat.lt_of_lt_of_le c u.size,(u.cell (p:=⟨7,i * 2,none⟩) c).trans d,(u.cell (p:=⟨7,i * 2+1,none⟩) c).trans e⟩
theorem prescale_any (hi lo:Nat→Nat) (g:Nat) (e p h:Int) (w:World) (z:Pw hi lo w) (hg:g≠7) (a0:g < w.heap.size) (i:Nat) (hp:p - -348=(i:Int)) (F:i < 696)
  (he:-3000≤e∧e≤3000) (a1:-3000≤h∧h≤3000) (a b c:Value) (c0:w.cell? ⟨g,0,none⟩=some a) (c1:w.cell? ⟨g,1,none⟩=some b) (c2:w.cell? ⟨g,2,none⟩=some c) (f0:w.frozen? ⟨g,0,none⟩=false) (f1:w.frozen? ⟨g,1,none⟩=false) (f2:w.frozen? ⟨g,2,none⟩=false) :
  Calls Tryz.prog 352 #[.pointer (some ⟨g,0,none⟩),.int .i64 e,.int .i64 p,.int .i64 h] w fun u w'=>u=.returned (.tuple #[])∧w'=((w.setCell ⟨g,0,none⟩ (.int .u64 (hi i))).setCell ⟨g,1,none⟩ (.int .u64 (lo i))).setCell ⟨g,2,none⟩ (.int .i64 (-(e+h+3))):=by
 obtain ⟨G,I,J,W,Y⟩:=z i F
 go_enter Tryz.func352,Tryz.ntmps352
 go_wp2_with fail
 exact bodyPost_end (v:=.tuple #[]) (by simp [results,Tryz.results352]) rfl ⟨rfl,rfl⟩
theorem and63 (s:Int):bits .and .i64 s 63=s % 64:=by
 show IntKind.i64.wrap ((BitVec.ofInt 64 s &&& BitVec.ofInt 64 63).toNat:Int)=_
 have h:(BitVec.ofInt 64 63).toNat=2 ^ 6 - 1:=by decide
 rw [BitVec.toNat_and,h,Nat.and_two_pow_sub_one_eq_mod,BitVec.toNat_ofInt,IntKind.wrap_i64]
 omega
theorem and1 (s:Int):bits .and .i64 s 1=s % 2:=by
 show IntKind.i64.wrap ((BitVec.ofInt 64 s &&& BitVec.ofInt 64 1).toNat:Int)=_
 have h:(BitVec.ofInt 64 1).toNat=2 ^ 1 - 1:=by decide
 rw [BitVec.toNat_and,h,Nat.and_two_pow_sub_one_eq_mod,BitVec.toNat_ofInt,IntKind.wrap_i64]
 omega
theorem pre_world (w:World) (T:TypeId) (a b c:Value) (u:World) (h:u=(((w.alloc (.cells #[.int .u64 0,.int .u64 0,.int .i64 0] T)).setCell ⟨w.heap.size,0,none⟩ a).setCell ⟨w.heap.size,1,none⟩ b).setCell ⟨w.heap.size,2,none⟩ c) :
  u.cell? ⟨w.heap.size,0,none⟩=some a∧u.cell? ⟨w.heap.size,1,none⟩=some b∧u.cell? ⟨w.heap.size,2,none⟩=some c∧Below w.heap.size w u:=by
 subst h
 refine ⟨by go_simp,by go_simp,by go_simp,?_⟩
 exact (((Below.refl _ w).alloc (Nat.le_refl _) _).setCell (Nat.le_refl _) _ |>.setCell (Nat.le_refl _) _).setCell (Nat.le_refl _) _
def tl (hi lo:Nat→Nat) (m:Nat) (e:Int) (mn mx:Nat) (odd p:Int):Int × Int:=
 let i:=(p+348).toNat
 let q:=(-(e+p * 108853 / 32768+3)) % 64
 let dmin:=cei (nud (usc mn (hi i) (lo i) q) odd)
 let dmax:=flo (nud (usc mx (hi i) (lo i) q) (-odd))
 if dmin≤dmax / 10 * 10 then (dmax / 10,-(p - 1))
 else if dmin < dmax then (rou (usc m (hi i) (lo i) q),-p) else (dmin,-p)
theorem shortA (hi lo:Nat→Nat) (m:Nat) (e:Int) (w:World) (hP:Pw hi lo w) (hm:m < 18446744073709551616) (he:-1085≤e) (aw:e≤960) (h1:((m:Int) == 9223372036854775808)=true) (h2:decide (-1085 < e)=true)
  (p F:Int) (I mx:Nat) (hp:-(((e+11) * 631305 - 261663) / 2097152)=p) (a7:IntKind.u64.wrap (m - 512)=(I:Int)) (a8:IntKind.u64.wrap (m+1024)=(mx:Int)) (a3:bits .and .i64 (m / 2048) 1=F) (aj:I < 18446744073709551616) (ak:mx < 18446744073709551616) :
  Calls Tryz.prog 346 #[.int .u64 m,.int .i64 e] w fun h w'=>h=.returned (.tuple #[.int .u64 (tl hi lo m e I mx F p).1,.int .i64 (tl hi lo m e I mx F p).2])∧Below w.heap.size w w':=by
 go_enter Tryz.func346,Tryz.ntmps346
 go_wp2_with fail
 refine (skewed_any (e+11) _ (by omega) (by omega)).mono ?_
 rintro h w' ⟨rfl,rfl⟩
 go_wp2_with fail
 have ay:-330≤p∧p≤330:=by omega
 obtain ⟨i,a5⟩:∃ i:Nat,(p+348).toNat=i:=⟨_,rfl⟩
 have a9:p - -348=(i:Int):=by omega
 have a6:i < 696:=by omega
 have ax:0≤F∧F≤1:=by rw [and1] at a3; omega
 have HP:=Lh hp
 have av:=Lh a3
 have HI:=Lh a5
 have ag:=Lh a9
 have ar:=Lh a7
 have au:=Lh a8
 clear hp a3 a5 a9 a7 a8
 obtain ⟨hh,hl,ai,al,an⟩:=hP i a6
 refine (log2_any p _ (by omega) (by omega)).mono ?_
 rintro h W ⟨rfl,rfl⟩
 have a4:Pw hi lo (w'.alloc (Obj.cells #[Value.int IntKind.u64 0,Value.int IntKind.u64 0,Value.int IntKind.i64 0] 396)):=hP.below ((Below.refl _ _).alloc (Nat.le_refl _) _)
 go_wp2_with fail
 refine (prescale_any hi lo _ e p _ _ a4 (by omega) (by simp) i ag.out a6 (by omega) (by omega) (.int .u64 0) (.int .u64 0) (.int .i64 0) (by go_simp) (by go_simp) (by go_simp) (by go_simp) (by go_simp) (by go_simp)).mono ?_
 rintro h W ⟨rfl,ac⟩
 obtain ⟨c0,c1,c2,HB⟩:=pre_world w' _ _ _ _ _ ac
 clear ac a4 al an ai
 obtain ⟨q,hq⟩:∃ q,(-(e+p * 108853 / 32768+3)) % 64=q:=⟨_,rfl⟩
 have aa:0≤q∧q≤63:=by omega
 have HQ:=Lh hq
 clear hq
 have cu:∀ (x:Nat) (k:Nat),x < 18446744073709551616→Calls Tryz.prog 354 #[.int .u64 x,.pointer (some ⟨w'.heap.size,0,none⟩)] (W.drewN k) fun e ad=>e=.returned (.int .u64 (usc x (hi i) (lo i) q)) ∧ ∃ n,ad=W.drewN n:=fun x k hx=>
  (uscale_any x (hi i) (lo i) _ w'.heap.size (W.drewN k) hx hh hl c0 c1 c2 q ((and63 _).trans HQ.out) aa.1 aa.2).mono fun e ad ⟨he,n,hn⟩=>⟨he,k+n,by rw [hn,World.drewN_drewN]⟩
 obtain ⟨u,Y⟩:∃ x,cei (nud (usc I (hi i) (lo i) q) F)=x:=⟨_,rfl⟩
 obtain ⟨z,a0⟩:∃ x,flo (nud (usc mx (hi i) (lo i) q) (-F))=x:=⟨_,rfl⟩
 have ao:=cei_in (nud (usc I (hi i) (lo i) q) F)
 have aq:=flo_in (nud (usc mx (hi i) (lo i) q) (-F))
 rw [Y] at ao
 rw [a0] at aq
 have a2:∀ n,Below w'.heap.size w' (W.drewN n):=fun n=>below_drewN HB n
 have HT:=Lh (show tl hi lo m e I mx F p=(if u≤z / 10 * 10 then (z / 10,-(p - 1)) else if u < z then (rou (usc m (hi i) (lo i) q),-p) else (u,-p)) by unfold tl; simp only [HI.out,HQ.out,Y,a0])
 have ae:=Lh Y
 have af:=Lh a0
 clear Y a0
 go_wp2_with fail
 refine (cu I 0 aj).mono ?_
 rintro h J ⟨rfl,n2,rfl⟩
 go_wp2_with fail
 refine (nudge_any _ _ _).mono ?_
 rintro h J ⟨rfl,rfl⟩
 go_wp2_with fail
 refine (ceil_any _ _).mono ?_
 rintro h J ⟨rfl,rfl⟩
 rw [ae.out]
 go_wp2_with fail
 refine (cu mx _ ak).mono ?_
 rintro h J ⟨rfl,n3,rfl⟩
 go_wp2_with fail
 refine (nudge_any _ _ _).mono ?_
 rintro h J ⟨rfl,rfl⟩
 go_wp2_with fail
 refine (floor_any _ _).mono ?_
 rintro h J ⟨rfl,rfl⟩
 rw [af.out]
 by_cases g1:u≤z / 10 * 10
 ·have ah:decide (u≤z / 10 * 10)=true:=decide_eq_true g1
  have G:=Lh g1
  clear g1
  go_wp2_with fail
  exact bodyPost_ret (v:=.tuple #[.int .u64 (z / 10),.int .i64 (-(p - 1))]) (by simp [results,Tryz.results346,go_sem]) rfl ⟨by rw [HT.out,if_pos G.out],a2 _⟩
 ·have ah:decide (u≤z / 10 * 10)=false:=decide_eq_false g1
  have G:=Lh g1
  clear g1
  by_cases g2:u < z
  ·have a1:decide (u < z)=true:=decide_eq_true g2
   go_wp2_with fail
   refine (cu m _ hm).mono ?_
   rintro h J ⟨rfl,n4,rfl⟩
   go_wp2_with fail
   refine (round_any _ _).mono ?_
   rintro h J ⟨rfl,rfl⟩
   go_wp2_with fail
   exact bodyPost_ret (v:=.tuple #[.int .u64 (rou (usc m (hi i) (lo i) q)),.int .i64 (-p)]) (by simp [results,Tryz.results346,go_sem]) rfl ⟨by rw [HT.out,if_neg (Int.not_le.2 G.out),if_pos (of_decide_eq_true a1)],a2 _⟩
  ·have a1:decide (u < z)=false:=decide_eq_false g2
   go_wp2_with fail
   exact bodyPost_ret (v:=.tuple #[.int .u64 u,.int .i64 (-p)]) (by simp [results,Tryz.results346,go_sem]) rfl ⟨by rw [HT.out,if_neg (Int.not_le.2 G.out),if_neg (of_decide_eq_false a1)],a2 _⟩
abbrev e8:UInt8→Value:=fun b=>.int .u8 (b.toNat:Int)
abbrev zeros32:Array Value:=#[.int .u8 0,.int .u8 0,.int .u8 0,.int .u8 0,.int .u8 0,.int .u8 0,.int .u8 0,.int .u8 0,.int .u8 0,.int .u8 0,.int .u8 0,.int .u8 0,.int .u8 0,.int .u8 0,.int .u8 0,.int .u8 0,.int .u8 0,.int .u8 0,.int .u8 0,.int .u8 0,.int .u8 0,.int .u8 0,.int .u8 0,.int .u8 0,.int .u8 0,.int .u8 0,.int .u8 0,.int .u8 0,.int .u8 0,.int .u8 0,.int .u8 0,.int .u8 0]
theorem zeros32_at:∀ j,j < 32→zeros32[j]? = some (.int .u8 0)
 | 0,_=>rfl
 | 1,_=>rfl
 | 2,_=>rfl
 | 3,_=>rfl
 | 4,_=>rfl
 | 5,_=>rfl
 | 6,_=>rfl
 | 7,_=>rfl
 | 8,_=>rfl
 | 9,_=>rfl
 | 10,_=>rfl
 | 11,_=>rfl
 | 12,_=>rfl
 | 13,_=>rfl
 | 14,_=>rfl
 | 15,_=>rfl
 | 16,_=>rfl
 | 17,_=>rfl
 | 18,_=>rfl
 | 19,_=>rfl
 | 20,_=>rfl
 | 21,_=>rfl
 | 22,_=>rfl
 | 23,_=>rfl
 | 24,_=>rfl
 | 25,_=>rfl
 | 26,_=>rfl
 | 27,_=>rfl
 | 28,_=>rfl
 | 29,_=>rfl
 | 30,_=>rfl
 | 31,_=>rfl
 | j+32,h=>absurd h (by omega)
def trl (ds:List UInt8):Nat→Nat
 | 0=>0
 | k+1=>if ds[k]? = some 48 then trl ds k else k+1
theorem digits_at (u j:Nat) (h:j < Lib.nDigits u):∃ x,(Lib.decDigits u)[j]? = some x:=by
 have:j < (Lib.decDigits u).length:=by rw [Lib.decDigits_length]; exact h
 exact ⟨_,List.getElem?_eq_getElem this⟩
theorem nd20 (u:Nat) (h:1≤u) (z:u < 18446744073709551616):1≤Lib.nDigits u∧Lib.nDigits u≤20:=by
 have F:1≤Lib.nDigits u:=by rw [Lib.nDigits]; split <;> omega
 have:=Lib.numDigits_eq u h z
 split at this <;> omega
theorem put_other (w:World) (h:Nat) (u:Array UInt8) (i:Nat) (z:i≠h):(putRow e8 w h 0 u).heap[i]? = w.heap[i]?:=by
 have:¬ h=i:=fun e=>z e.symm
 simp [putRow,mapBlock,Array.getElem?_modify,this]
theorem setDigits_any (h d:Nat) (p:Int) (w:World) (hz:∀ j,j < 32→w.cell? ⟨h,j,none⟩=some (.int .u8 0)∧w.frozen? ⟨h,j,none⟩=false) (a7:1≤d) (hd:d < 18446744073709551616) (hp:-400≤p∧p≤400) (n:Nat) (hn:Lib.nDigits d=n) :
  Calls Tryz.prog 341 #[.slice (some ⟨h,0,none⟩) 32 32,.int .u64 d,.int .i64 p,.int .i64 n] w fun e w'=>e=.returned (.tuple #[.int .i64 (n+p),.int .i64 (trl (Lib.decDigits d) n)]) ∧
   (∀ j x,(Lib.decDigits d)[j]? = some x→w'.cell? ⟨h,j,none⟩=some (e8 x))∧w.grownBy w' (some h):=by
 have a8:=nd20 d a7 hd
 rw [hn] at a8
 have a0:Holds e8 w h 0 (Array.replicate n (0:UInt8)):=fun j z=>by
  have a9:j < n:=by simpa using z
  obtain ⟨a,b⟩:=hz j (by omega)
  refine ⟨?_,by rw [Nat.zero_add]; exact b⟩
  rw [Nat.zero_add,a,getElem!_pos _ j z]
  simp [e8]
 have a1:=Any.internal_strconv_formatBase10 (P:=Tryz.prog) (ρ:=ffRen) ffBase h 0 32 d (Array.replicate n 0) w a0 (by rw [Array.size_replicate,← hn]; exact Lib.lt_pow_nDigits d) hd (by rw [Array.size_replicate]; omega)
 rw [Array.size_replicate] at a1
 have HF:=Lh a1
 have a2:=Lh a0
 have Y:=Lh hn
 clear a1 a0 hz hn
 go_enter Tryz.func341,Tryz.ntmps341
 go_wp2_with fail
 refine HF.out.mono ?_
 rintro e w' ⟨rfl,k,v',G,rfl,I⟩
 obtain ⟨F,J⟩:∃ F,F=(putRow e8 w h 0 G).drewN k:=⟨_,rfl⟩
 have a3:∀ j x,(Lib.decDigits d)[j]? = some x→F.cell? ⟨h,j,none⟩=some (e8 x):=by
  intro j x hx
  obtain ⟨z,rfl⟩:=List.getElem?_eq_some_iff.1 hx
  have a6:Lib.FmtInv (Lib.nDigits d) d 0 v' G:=by rw [Y.out]; exact I
  have h1:=Lib.row_is_numeral a6 j z
  rw [J,World.cell?_drewN,h1]
  have h2:=cell?_putRow e8 w h 0 _ G a2.out (by rw [I.size,Array.size_replicate]) j (by rw [I.size]; rw [Lib.decDigits_length,Y.out] at z; exact z)
  rw [Nat.zero_add] at h2
  exact h2
 have a4:w.grownBy F (some h):=by
  rw [J]
  exact ⟨rfl,rfl,rfl,by simp,fun i hi a5=>put_other w h G i (fun e=>a5 (by rw [e]))⟩
 rw [← J]
 have W:=Lh a3
 have HG:=Lh a4
 clear a3 a4 J I HF a2
 go_wp2_with fail
 go_loopw [3] (fun s3 wr=>∃ q:Nat,s3=.int .i64 q∧q≤n∧Hid (trl (Lib.decDigits d) q=trl (Lib.decDigits d) n∧wr=F)) (fun s3 _=>(intOf s3).toNat)
 case atStart=>exact ⟨n,rfl,Nat.le_refl _,rfl,rfl⟩
 case round=>
  obtain ⟨q,rfl,hq,u⟩:=hrel
  cases q with
  | zero=>
   have e0:=u.out.2
   subst e0
   go_wp2_with fail
   go_ret2
   refine ⟨by rw [← u.out.1]; rfl,W.out,HG.out⟩
  | succ m=>
   obtain ⟨x,hx⟩:=digits_at d m (by rw [Y.out]; omega)
   have hc:=W.out m x hx
   rw [← u.out.2] at hc
   have ac:decide ((0:Int) < ((m+1:Nat):Int))=true:=decide_eq_true (by omega)
   have aa:((m+1:Nat):Int) - 1=(m:Int):=by omega
   have b0:(0:Int)≤(m:Int):=by omega
   have b1:(m:Int) < 32:=by omega
   have HX:=Lh hx
   clear hx
   by_cases h48:x=48
   ·subst h48
    go_wp2_with fail
    go_roundw
    case rel=>exact ⟨m,by go_num,by omega,by rw [← u.out.1]; conv=>rhs; unfold trl; rw [if_pos HX.out],u.out.2⟩
    case measure=>simp [intOf]
   ·have a5:(((x.toNat:Int)) == 48)=false:=by
     rw [beq_eq_false_iff_ne]
     intro e
     apply h48
     apply UInt8.toNat_inj.1
     show x.toNat=48
     omega
    go_wp2_with fail
    go_ret2
    have e0:=u.out.2
    subst e0
    refine ⟨?_,W.out,HG.out⟩
    have:trl (Lib.decDigits d) (m+1)=m+1:=by unfold trl; rw [if_neg (by rw [HX.out]; intro e; exact h48 (by injection e))]
    rw [← u.out.1,this]
    rfl
theorem info_u8:(Tryz.prog.info? 5).map (fun i=>(i.zero,i.size,i.bytes))=some (some (.int .u8 0),1,1):=by kernel_rfl
theorem one_u8 (y:Int):(Value.int .u8 y).oneCell'=true:=rfl
structure Ap (base hb:Nat) (ds:List Int) (w0:World) (l:List Int) (A:Option Addr) (n c:Nat) (w:World):Prop where
 own:w.ownsRow base 5 1 (.slice A n c) n (l.map (Value.int .u8))
 ne:(Value.slice A n c).ownBlock≠some hb
 lt:hb < w.heap.size
 dig:∀ j x,ds[j]? = some x→w.cell? ⟨hb,j,none⟩=some (.int .u8 x)
 bel:Below base w0 w
 bs:base≤w.heap.size
 few:n≤1000
theorem Ap.len {base z:Nat} {u:List Int} {F:World} {l:List Int} {A:Option Addr} {n c:Nat} {w:World} (h:Ap base z u F l A n c w):l.length=n:=by
 have:=h.own.1; simpa using this
section
variable {ops:Array Oper} {rest:List Oper} {o:Oper} {a:Act} {Q:Exit→Act→World→Prop}
theorem Ap.app {base I:Nat} {G:List Int} {J:World} {l:List Int} {A:Option Addr} {n c:Nat} {w:World} (h:Ap base I G J l A n c w) (b:Int) (a0:o.guard=none) (s x:Operand)
  (ho:o.op=.call { callee:=.builtin .append,args:=#[s,x],argTypes:=#[22,22] }) (hs:a.eval s=.slice A n c) (hx:a.eval x=.slice (some ⟨w.heap.size,0,none⟩) 1 1) (few:n+1≤1000) (k:Nat) (hk:n+1=k)
  (K:∀ A' z w',Ap base I G J (l ++ [b]) A' k z w'→wpList Tryz.prog ops Q rest (a.put o.dst (.slice A' k z)) w'):wpList Tryz.prog ops Q (o :: rest) a (w.alloc (.cells #[.int .u8 b] 5)):=by
 subst hk
 obtain ⟨i0,hi,a2,a3,a4⟩:=info_parts info_u8
 have a1:Rd (Value.int .u8) (w.alloc (.cells #[.int .u8 b] 5)) (w.heap.size+1) (some ⟨w.heap.size,0,none⟩) 1 1 [b]:=rd_one (enc:=Value.int .u8) w b 5
 refine append_rd _ a0 s x 22 ho base 5 i0 (.int .u8 0) 1 Tryz.underlying22 hi a2 a3 a4 rfl _ n _ hs (h.own.alloc _) _ _ 1 1 [b] hx a1 one_u8 (n+1) rfl ((l ++ [b]).map (Value.int .u8)) (by simp) (by unfold maxLen; omega) (by omega) (by have:=h.bs; simp; omega) ?_
 intro A' z w' W F u
 refine K A' z w' ⟨W,?_,?_,fun j y hy=>?_,?_,?_,few⟩
 ·intro e
  rcases u with u | u
  ·exact h.ne (u.symm.trans e)
  ·rw [u] at e
   injection e with e
   have:=h.lt
   simp at e
   omega
 ·have:=F.size; have:=h.lt; simp at *; omega
 ·exact F.cell (alloc_cell (h.dig j y hy) _) (fun e=>h.ne e.symm)
 ·exact ((h.bel).alloc h.bs _).grown F (by have:=h.bs; simp; omega) (fun g Y=>(h.own.lt g Y).1)
 ·have:=F.size; have:=h.bs; simp at *; omega
end
theorem efg_quarter (base W:Nat) (F:List Int) (w0 w:World) (A:Option Addr) (c:Nat) (h:Ap base W F w0 [] A 0 c w) (h0:F[0]? = some 50) (h1:F[1]? = some 53) :
  Calls Tryz.prog 339 #[.slice A 0 c,.bool false,.slice (some ⟨W,0,none⟩) 32 32,.int .i64 0,.int .i64 2,.int .i64 2,.int .u8 103,.bool true] w fun e w'=>∃ A' c',e=.returned (.slice A' 4 c')∧Ap base W F w0 [48,46,50,53] A' 4 c' w':=by
 have H:=Lh h
 have H0:=Lh h0
 have H1:=Lh h1
 clear h h0 h1
 have m1:max (2:Int) 0=2:=by decide
 have m2:max (0:Int) 0=0:=by decide
 have m3:min (2:Int) 0=0:=by decide
 have m4:max (0:Int) 2=2:=by decide
 have m5:min (2:Int) 2=2:=by decide
 go_enter Tryz.func339,Tryz.ntmps339
 go_wp2_with (at_builtin; (refine Ap.app H.out 48 rfl _ _ rfl rfl rfl (by omega) 1 rfl ?_; intro A1 c1 w1 u; refine Hid.out ?_))
 refine Lh ?_
 have a0:=Lh u
 clear u
 go_wp2_with (at_builtin; (refine Ap.app a0.out 46 rfl _ _ rfl rfl rfl (by omega) 2 rfl ?_; intro A2 c2 w2 u))
 have a1:=Lh u
 clear u H a0
 go_wp2_with fail
 go_loopw [0,240] (fun J z wr=>J=.slice A2 2 c2∧z=.int .i64 0∧Hid (wr=w2)) (fun _ _ _=>0)
 case atStart=>exact ⟨rfl,rfl,rfl⟩
 case round=>
  obtain ⟨rfl,rfl,hw⟩:=hrel
  have Y:=hw.out
  subst Y
  clear hw
  go_wp2_with fail
  go_loopw [0,30,247] (fun J _ z wr=>∃ (q:Nat) (G:Option Addr) (c9 I:Nat),q≤2∧I=2+q∧J=.slice G I c9∧z=.int .i64 q∧Hid (Ap base W F w0 ([48,46] ++ [50,53].take q) G I c9 wr)) (fun _ _ z _=>2 - (intOf z).toNat)
  case atStart=>exact ⟨0,A2,c2,2,by omega,by omega,rfl,rfl,a1.out⟩
  case round=>
   clear a1
   obtain ⟨q,G,c9,I,hq,a4,rfl,rfl,u⟩:=hrel
   by_cases hqr:q < 2
   ·have qd:decide ((q:Int) < 2)=true:=decide_eq_true (by omega)
    obtain ⟨x,hx,hy⟩:∃ x:Int,F[q]? = some x∧[48,46] ++ [50,53].take q ++ [x] = [48,46] ++ [50,53].take (q+1):=by
     match q,hqr with
     | 0,_=>exact ⟨50,H0.out,rfl⟩
     | 1,_=>exact ⟨53,H1.out,rfl⟩
    have hc:=u.out.dig q x hx
    have b0:(0:Int)≤(q:Int):=by omega
    have b1:(q:Int) < 32:=by omega
    have HY:=Lh hy
    clear hx hy
    go_wp2_with (at_builtin; (refine Ap.app u.out x rfl _ _ rfl rfl rfl (by omega) _ rfl ?_; intro A8 c8 w8 a2))
    have H8:=Lh a2
    clear a2
    go_roundw
    case rel=>exact ⟨q+1,A8,c8,2+q+1,by omega,by omega,rfl,by go_num,by rw [← HY.out,← a4]; exact H8⟩
    case measure=>simp [intOf]; omega
   ·have qd:decide ((q:Int) < 2)=false:=decide_eq_false (by omega)
    obtain rfl:q=2:=by omega
    obtain rfl:I=4:=by omega
    go_wp2_with fail
    obtain ⟨wq,a3⟩:∃ wq,wq=wr:=⟨_,rfl⟩
    rw [← a3] at u
    subst a3
    go_loopw [0,261] (fun J z wx=>J=.slice G 4 c9∧z=.int .i64 0∧Hid (wx=wq)) (fun _ _ _=>0)
    case atStart=>exact ⟨rfl,rfl,rfl⟩
    case round=>
     obtain ⟨rfl,rfl,hw⟩:=hrel
     have Y:=hw.out
     subst Y
     clear hw
     go_wp2_with fail
     go_ret
     exact ⟨G,c9,rfl,u.out⟩
end Go.Proofs.YtoiklelghfckgaaGreatDoor.Ff
