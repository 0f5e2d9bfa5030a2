/- A part of the claim. -/
import Derived.Test.YtoiklelghfckgaaGreatDoorProg
import Derived.Lib.EndianBits
import Derived.WalkKit
import GoSem.PinnedTables
import GoSem.Claim
import GoSem.ClaimJoined
import GoSem.ClaimMapViews
import Derived.JoinedTies
import Derived.ProofKit
import Derived.BigGuardPart
import Derived.Outline
import Derived.Lib.Hide
import Derived.Carry
import Derived.OpenShut
import Derived.Deep.Slices
import Derived.Deep.Fields
import Derived.ChangeSame
import Derived.Laws.LoneSync
import Derived.Laws.Pointers
import Derived.Maps.AppendAt
import Derived.Laws.OwnMore
import Derived.OwnWalk
import Derived.Lib.AppendZeros
import Derived.Lib.AppendZerosOnto
import Derived.Deep.Draws
import Derived.WalkSpells
import Derived.Deep.QuietTactic
import Derived.BigQuiet
import Derived.RegionTactic
import Derived.Maps.OwnSet
import Derived.OrdersHeld
import Derived.Tactics
import Derived.KernelRfl
import Derived.StillTailTactics
section
set_option maxRecDepth 100000
set_option maxHeartbeats 8000000
set_option linter.unusedVariables false
namespace Go.Proofs.YtoiklelghfckgaaGreatDoor
theorem Lh {p:Prop} (h:p):Go.RowKit.Hid p:=h
end Go.Proofs.YtoiklelghfckgaaGreatDoor
namespace Go.Proofs.YtoiklelghfckgaaGreatDoor.Wd
open Go
def wOf (s v:Int):Int:=4 * (v % 4611686018427387904)+s % 4
def wMay (f t:Int):Bool:=(f == 0 && (t == 1 || t == 2)) || (f == 1 && (t == 0 || t == 3)) || (f == 2 && (t == 0 || t == 1 || t == 3))
def wTo (r t:Int):Int:=if wMay (r % 4) t then wOf t (r / 4+1) else r
theorem and3_u64 (x:Int) (h:0<=x) (u:x<=18446744073709551615):bits .and .u64 x 3=x % 4:=
 bits_mask .u64 64 (by decide) wraps_u64 2 (by decide) x h (by omega)
theorem and3_i64 (s:Int):bits .and .i64 s 3=s % 4:=by
 show IntKind.i64.wrap ((BitVec.ofInt 64 s &&& BitVec.ofInt 64 3).toNat:Int)=_
 have h:(BitVec.ofInt 64 3).toNat=2 ^ 2 - 1:=by decide
 rw[BitVec.toNat_and,h,Nat.and_two_pow_sub_one_eq_mod,BitVec.toNat_ofInt,IntKind.wrap_i64]
 omega
theorem or2_u64 (x y:Int) (h:0<=x) (F:x<=18446744073709551615) (hx:x % 4=0) (u:0<=y) (z:y < 4):bits .or .u64 x y=x+y:=
 bits_join .u64 64 (by decide) wraps_u64 2 x y h hx (by omega) u z (by omega)
theorem of_bits (s v:Int):bits .or .u64 (IntKind.u64.wrap (v * 4)) (IntKind.u64.wrap (bits .and .i64 s 3))=wOf s v:=by
 rw[and3_i64,IntKind.wrap_u64,IntKind.wrap_u64,or2_u64 _ _ (by omega) (by omega) (by omega) (by omega) (by omega)]
 unfold wOf; omega
theorem wOf_lo (s v:Int):0<=wOf s v:=by unfold wOf; omega
theorem wOf_hi (s v:Int):wOf s v<=18446744073709551615:=by unfold wOf; omega
theorem wTo_lo (r t:Int) (h:0<=r):0<=wTo r t:=by
 unfold wTo; split
 .exact wOf_lo _ _
 .exact h
theorem wTo_hi (r t:Int) (h:r<=18446744073709551615):wTo r t<=18446744073709551615:=by
 unfold wTo; split
 .exact wOf_hi _ _
 .exact h
theorem wTo_no {r t:Int} (h:wMay (r % 4) t=false):wTo r t=r:=by simp[wTo,h]
theorem wTo_yes {r t:Int} (h:wMay (r % 4) t=true):wTo r t=wOf t (r / 4+1):=by simp[wTo,h]
theorem five (x:Int):x=0\/x=1\/x=2\/x=3\/((x == 0)=false/\(x == 1)=false/\(x == 2)=false/\(x == 3)=false):=by
 by_cases h0:x=0
 .exact .inl h0
 by_cases h1:x=1
 .exact .inr (.inl h1)
 by_cases h2:x=2
 .exact .inr (.inr (.inl h2))
 by_cases h3:x=3
 .exact .inr (.inr (.inr (.inl h3)))
 exact .inr (.inr (.inr (.inr ⟨by simpa using h0,by simpa using h1,by simpa using h2,by simpa using h3⟩)))
theorem ret_int {k:IntKind} {a b:Int} (h:a=b):Ending.returned (.int k a)=.returned (.int k b):=by rw[h]
theorem lo_u8 {a:Int} (h:(Lit.int .u8 a).wf=true):0<=a/\a<=255:=by
 simp[Lit.wf,IntKind.min,IntKind.max,IntKind.signed,IntKind.bits] at h; exact h
end Go.Proofs.YtoiklelghfckgaaGreatDoor.Wd
namespace Go.Proofs.YtoiklelghfckgaaGreatDoor.Wd
open Go.ChangeShapes Go.WideShapes Go.ChangeAt Go.RowKit
theorem state_any (r:Int) (w:World) (h:0<=r) (u:r<=18446744073709551615) :
  Calls Tryz.prog 15 #[.int .u64 r] w fun e w'=>e=.returned (.int .i64 (r % 4))/\w=w':=by
 go_enter Tryz.func15,Tryz.ntmps15
 go_wp2
 go_ret
 exact⟨ret_int (by rw[and3_u64 r h u]; exact IntWalk.wrap64_in _ ⟨by omega,by omega⟩),rfl⟩
theorem version_any (r:Int) (w:World) (h:0<=r) (u:r<=18446744073709551615) :
  Calls Tryz.prog 211 #[.int .u64 r] w fun e w'=>e=.returned (.int .u64 (r / 4))/\w=w':=by
 go_enter Tryz.func211,Tryz.ntmps211
 go_wp2
 go_ret
 exact⟨rfl,rfl⟩
theorem of_any (s v:Int) (w:World) (h:0<=v) (u:v<=18446744073709551615) :
  Calls Tryz.prog 23 #[.int .i64 s,.int .u64 v] w fun e w'=>e=.returned (.int .u64 (wOf s v))/\w=w':=by
 go_enter Tryz.func23,Tryz.ntmps23
 go_wp2
 go_ret
 exact⟨ret_int (of_bits s v),rfl⟩
theorem may_any (f t:Int) (w:World) :
  Calls Tryz.prog 210 #[.int .i64 f,.int .i64 t] w fun e w'=>e=.returned (.bool (wMay f t))/\w=w':=by
 rcases five f with rfl | rfl | rfl | rfl | ⟨f0,f1,f2,f3⟩ <;> rcases five t with rfl | rfl | rfl | rfl | ⟨h,u,z,F⟩
 all_goals
  go_enter Tryz.func210,Tryz.ntmps210
  go_wp2
  go_ret
  exact⟨by simp[wMay, *],rfl⟩
theorem to_any (r t:Int) (w:World) (h:0<=r) (u:r<=18446744073709551615) :
  Calls Tryz.prog 189 #[.int .u64 r,.int .i64 t] w fun e w'=>e=.returned (.tuple #[.int .u64 (wTo r t),.bool (wMay (r % 4) t)])/\w=w':=by
 have hv:0<=r / 4/\r / 4+1<=18446744073709551615:=by omega
 cases hm:wMay (r % 4) t
 .have H:=Lh hm
  go_enter Tryz.func189,Tryz.ntmps189
  go_wp2_with fail
  refine (state_any _ _ h u).mono ?_
  rintro e w' ⟨rfl,rfl⟩
  go_wp2_with fail
  refine (may_any _ _ _).mono ?_
  rintro e w' ⟨rfl,rfl⟩
  rw[hm]
  go_wp2_with fail
  go_ret2
  exact⟨by rw[wTo_no H.out]; rfl,rfl⟩
 .have H:=Lh hm
  go_enter Tryz.func189,Tryz.ntmps189
  go_wp2_with fail
  refine (state_any _ _ h u).mono ?_
  rintro e w' ⟨rfl,rfl⟩
  go_wp2_with fail
  refine (may_any _ _ _).mono ?_
  rintro e w' ⟨rfl,rfl⟩
  rw[hm]
  go_wp2_with fail
  refine (version_any _ _ h u).mono ?_
  rintro e w' ⟨rfl,rfl⟩
  go_wp2_with fail
  refine (of_any _ _ _ (by omega) (by omega)).mono ?_
  rintro e w' ⟨rfl,rfl⟩
  go_wp2_with fail
  go_ret2
  exact⟨by rw[wTo_yes H.out]; rfl,rfl⟩
theorem awake_any (w:World) :
  Calls Tryz.prog 407 #[] w fun e w'=>e=.returned (.bool true)/\w=w':=by
 go_enter Tryz.func407,Tryz.ntmps407
 go_wp2_with fail
 refine (of_any _ _ _ (by decide) (by decide)).mono ?_
 rintro e w' ⟨rfl,rfl⟩
 go_wp2_with fail
 refine (to_any _ _ _ (by decide) (by decide)).mono ?_
 rintro e w' ⟨rfl,rfl⟩
 rw[show wTo (wOf 0 5) 1=25 by decide,show wMay (wOf 0 5 % 4) 1=true by decide]
 go_wp2_with fail
 refine (of_any _ _ _ (by decide) (by decide)).mono ?_
 rintro e w' ⟨rfl,rfl⟩
 rw[show wOf 0 5=20 by decide]
 go_wp2_with fail
 go_ret
 exact⟨rfl,rfl⟩
end Go.Proofs.YtoiklelghfckgaaGreatDoor.Wd
namespace Go.Proofs.YtoiklelghfckgaaGreatDoor.Lw
open Go Go.ChangeShapes Go.WideShapes Go.ChangeAt Go.RowKit Go.Deep
section
variable {H:Type} {enc:TypeId × Value->H} {P:Program}
theorem args_stay (hl:laidOutB P=true) {W G:World} (hb:Below W.heap.size W G) {Y:Nat->Bool} :
  ∀ (u:List TypeId) (vs:List Value) (z:List (DataW H)) (ps:List MemPlace),(u.all fun t=>P.readableRec t && decide (t < P.types.size))=true ->
   DataW.TrodAll enc P W 0 (fun _=>true) true u vs z ps->(∀ x∈ps,x.block < W.heap.size)->(∀ x∈ps,Y x.block=true) ->
   DataW.TrodAll enc P G 0 Y true u vs z ps:=by
 intro u
 induction u with
 | nil=>
  intro vs z ps _ h _ _
  obtain⟨rfl,rfl,rfl⟩:=trodAll_nil h
  exact trodAll_mk0
 | cons t u ih=>
  intro vs z ps F h I J
  obtain⟨v,a2,d,a0,p,q,rfl,rfl,rfl,hd,a1⟩:=trodAll_cons h
  simp only[List.all_cons,Bool.and_eq_true,decide_eq_true_eq] at F
  refine trodAll_cons_mk (WideElems.Trod_stays hl F.1.1 F.1.2 hd (fun x hx=>hb.same (I x (by simp[hx]))) (fun x hx=>J x (by simp[hx]))) ?_
  exact ih a2 a0 q F.2 a1 (fun x hx=>I x (by simp[hx])) (fun x hx=>J x (by simp[hx]))
theorem law_post {f:Func} {s:ChangeSpec} {I fresh a3:Bool} {W G:World} {args:Array Value} {u:List (DataW H)} {J:List MemPlace} {tb:TypeId}
  (hl:laidOutB P=true) (hp:(f.params.toList.all fun t=>P.readableRec t && decide (t < P.types.size))=true)
  (hr:f.resultTypes=#[tb]) (hb:P.underlying tb=some .bool) (hv:s.vars=[])
  (F:s.fn H (u ++ []) = { results:=[.lit (.bool true)],args:=u })
  (z:DataW.Whole enc P f.params.toList s.vars I W args.toList u [] J)
  (a0:Below W.heap.size W G):s.post enc P f I fresh a3 false W args (.bool true) G:=by
 have a1:∀ x∈J,x.block < W.heap.size:=fun x hx=>z.lt x hx
 have a2:=z
 obtain⟨p,q,hA,Y,rfl,a4,a5⟩:=z
 rw[hv] at Y
 obtain⟨-,rfl⟩:=trodVars_none Y
 refine⟨u,[],p ++ [],[],p,[],a2,?_,?_,?_,a0.frame _,fun h=>by cases h⟩
 .rw[F,hr]
  exact trodAll_cons_mk (shut_bool hb _) trodAll_mk0
 .rw[F]
  exact args_stay hl a0 _ _ _ _ hp hA (fun x hx=>a1 x (by simp[hx])) (fun x hx=>by simpa using a1 x (by simp[hx]))
 .rw[F,hv]
  rfl
end
section
variable {H:Type} {enc:TypeId × Value->H} {P:Program} {w:World} {base:Nat} {spare:Nat->Bool} {held:Bool}
end
theorem spot_none {w:World} {a:Addr} {v:Value} (h:w.cell? a=some v):a.spot=none:=by
 unfold World.cell? at h
 split at h
 .split at h
  .cases h
  .next u=>simpa using u
 .cases h
theorem add_eq {a:Addr} (h:a.spot=none) (n:Nat):a.add n=⟨a.block,a.off+n,none⟩:=by
 unfold Addr.add
 split
 .next hn=>subst hn; cases a; simp at h; subst h; rfl
 .rfl
theorem ltH {w:World} {a:Addr} {v:Value} (h:w.cell? a=some v):a.block < w.heap.size:=by
 unfold World.cell? at h
 cases hb:w.heap[a.block]? with
 | none=>rw[hb] at h; cases h
 | some o=>exact (Array.getElem?_eq_some_iff.1 hb).1
end Go.Proofs.YtoiklelghfckgaaGreatDoor.Lw
namespace Go.Proofs.YtoiklelghfckgaaGreatDoor.Wd
open Go.ChangeShapes Go.WideShapes Go.ChangeAt Go.RowKit
theorem aload_any (a:Addr) (v:Int) (w:World) (hc:w.cell? a=some (.int .u64 v)) :
  Calls Tryz.prog 104 #[.pointer (some a)] w fun e w'=>e=.returned (.int .u64 v)/\w=w':=by
 have h:=run_call_load (P:=Tryz.prog) Tryz.func162 (by kernel_rfl) (by kernel_rfl) (by kernel_rfl) .u64 (by kernel_rfl) hc
 obtain⟨b,o,s⟩:=a
 go_enter Tryz.func104,Tryz.ntmps104
 go_wp2
 go_ret
 exact⟨rfl,rfl⟩
theorem astore_any (a:Addr) (v y:Int) (w:World) (hc:w.cell? a=some (.int .u64 v)) (h:w.frozen? a=false) :
  Calls Tryz.prog 179 #[.pointer (some a),.int .u64 y] w fun e w'=>e=.returned (.tuple #[])/\w.setCell a (.int .u64 y)=w':=by
 have u:=run_call_store (P:=Tryz.prog) Tryz.func205 (by kernel_rfl) (by kernel_rfl) (by kernel_rfl) (by kernel_rfl) (k:=.u64) (y:=y) hc h
 go_enter Tryz.func179,Tryz.ntmps179
 go_wp2
 go_end0
 exact⟨rfl,rfl⟩
theorem acas_hit (a:Addr) (v y:Int) (w:World) (hc:w.cell? a=some (.int .u64 v)) (h:w.frozen? a=false) :
  Calls Tryz.prog 190 #[.pointer (some a),.int .u64 v,.int .u64 y] w fun e w'=>e=.returned (.bool true)/\w.setCell a (.int .u64 y)=w':=by
 have u:=run_call_cas_hit (P:=Tryz.prog) Tryz.func212 (by kernel_rfl) (by kernel_rfl) (by kernel_rfl) .u64 (by kernel_rfl) (y:=y) hc h
 go_enter Tryz.func190,Tryz.ntmps190
 go_wp2
 go_ret
 exact⟨rfl,rfl⟩
theorem load_any (a:Addr) (v:Int) (w:World) (hc:w.cell? a=some (.int .u64 v)) :
  Calls Tryz.prog 42 #[.pointer (some a)] w fun e w'=>e=.returned (.int .u64 v)/\w=w':=by
 go_enter Tryz.func42,Tryz.ntmps42
 go_wp2_with fail
 refine (aload_any _ v _ hc).mono ?_
 rintro e w' ⟨rfl,rfl⟩
 go_wp2_with fail
 go_ret
 exact⟨rfl,rfl⟩
theorem new_any (v:Int) (w:World) :
  Calls Tryz.prog 130 #[.int .u64 v] w fun e w'=>e=.returned (.pointer (some ⟨w.heap.size,0,none⟩))/\w.alloc (.cells #[.int .u64 v] 191)=w':=by
 go_enter Tryz.func130,Tryz.ntmps130
 go_wp2_with fail
 refine (astore_any _ 0 _ _ (by go_simp) (by go_simp)).mono ?_
 rintro e w' ⟨rfl,rfl⟩
 go_wp2_with fail
 go_ret
 exact⟨rfl,by simp⟩
theorem clone_any (a:Addr) (v:Int) (w:World) (hc:w.cell? a=some (.int .u64 v)) :
  Calls Tryz.prog 111 #[.pointer (some a)] w fun e w'=>e=.returned (.pointer (some ⟨w.heap.size,0,none⟩))/\w.alloc (.cells #[.int .u64 v] 191)=w':=by
 go_enter Tryz.func111,Tryz.ntmps111
 go_wp2_with fail
 refine (load_any _ v _ hc).mono ?_
 rintro e w' ⟨rfl,rfl⟩
 go_wp2_with fail
 refine (new_any _ _).mono ?_
 rintro e w' ⟨rfl,rfl⟩
 go_wp2_with fail
 go_ret
 exact⟨rfl,rfl⟩
theorem swap_other (a:Addr) (v o t:Int) (w:World) (hc:w.cell? a=some (.int .u64 v)) (u:0<=o) (z:o<=18446744073709551615) (h:v≠o) :
  Calls Tryz.prog 145 #[.pointer (some a),.int .u64 o,.int .i64 t] w fun e w'=>e=.returned (.tuple #[.int .u64 v,.bool false])/\w=w':=by
 have F:(v != o)=true:=by rw[bne_iff_ne]; exact h
 clear h
 go_enter Tryz.func145,Tryz.ntmps145
 go_wp2_with fail
 refine (load_any _ v _ hc).mono ?_
 rintro e w' ⟨rfl,rfl⟩
 go_wp2_with fail
 refine (to_any _ _ _ u z).mono ?_
 rintro e w' ⟨rfl,rfl⟩
 go_wp2_with fail
 go_ret2
 exact⟨rfl,rfl⟩
theorem swap_maynot (a:Addr) (o t:Int) (w:World) (hc:w.cell? a=some (.int .u64 o)) (u:0<=o) (z:o<=18446744073709551615) (h:wMay (o % 4) t=false) :
  Calls Tryz.prog 145 #[.pointer (some a),.int .u64 o,.int .i64 t] w fun e w'=>e=.returned (.tuple #[.int .u64 o,.bool false])/\w=w':=by
 have H:=Lh h
 clear h
 go_enter Tryz.func145,Tryz.ntmps145
 go_wp2_with fail
 refine (load_any _ o _ hc).mono ?_
 rintro e w' ⟨rfl,rfl⟩
 go_wp2_with fail
 refine (to_any _ _ _ u z).mono ?_
 rintro e w' ⟨rfl,rfl⟩
 rw[H.out]
 go_wp2_with fail
 go_ret2
 exact⟨rfl,rfl⟩
theorem swap_goes (a:Addr) (o t:Int) (w:World) (hc:w.cell? a=some (.int .u64 o)) (u:w.frozen? a=false) (z:0<=o) (F:o<=18446744073709551615) (h:wMay (o % 4) t=true) :
  Calls Tryz.prog 145 #[.pointer (some a),.int .u64 o,.int .i64 t] w fun e w'=>e=.returned (.tuple #[.int .u64 (wTo o t),.bool true])/\w.setCell a (.int .u64 (wTo o t))=w':=by
 have H:=Lh h
 clear h
 go_enter Tryz.func145,Tryz.ntmps145
 go_wp2_with fail
 refine (load_any _ o _ hc).mono ?_
 rintro e w' ⟨rfl,rfl⟩
 go_wp2_with fail
 refine (to_any _ _ _ z F).mono ?_
 rintro e w' ⟨rfl,rfl⟩
 rw[H.out]
 go_wp2_with fail
 refine (acas_hit _ _ _ _ hc u).mono ?_
 rintro e w' ⟨rfl,rfl⟩
 go_wp2_with fail
 go_ret2
 exact⟨rfl,rfl⟩
def wSwap (v o t:Int):Int:=if v=o/\wMay (o % 4) t=true then wTo o t else v
def wSwapOk (v o t:Int):Bool:=decide (v=o) && wMay (o % 4) t
theorem wSwap_lo (v o t:Int) (h:0<=v):0<=wSwap v o t:=by
 unfold wSwap; split
 .next u=>exact wTo_lo _ _ (by omega)
 .exact h
theorem wSwap_hi (v o t:Int) (h:v<=18446744073709551615):wSwap v o t<=18446744073709551615:=by
 unfold wSwap; split
 .next u=>exact wTo_hi _ _ (by omega)
 .exact h
theorem setCell_self {w:World} {a:Addr} {v:Value} (h:w.cell? a=some v):w.setCell a v=w:=by
 have F:(w.setCell a v).heap=w.heap:=by
  apply Array.ext
  .simp[World.setCell]
  intro i J u
  simp only[World.setCell,Array.getElem_modify]
  split
  .next hi=>
   subst hi
   unfold World.cell? at h
   rw[Array.getElem?_eq_getElem u] at h
   split at h
   .next c e f hc=>
    simp only[Option.some.injEq] at hc
    rw[hc]
    split at h
    .cases h
    .next I=>
     simp only[if_neg I]
     congr 1
     obtain⟨a0,hv⟩:=Array.getElem?_eq_some_iff.1 h
     apply Array.ext
     .simp
     intro j W Y
     rw[Array.getElem_setIfInBounds]
     split
     .next G=>subst G; exact hv.symm
     .rfl
   .cases h
  .rfl
 have z:w.setCell a v = { w with heap:=(w.setCell a v).heap }:=rfl
 rw[z,F]
theorem swap_any (a:Addr) (v o t:Int) (w:World) (hc:w.cell? a=some (.int .u64 v)) (I:w.frozen? a=false) (F:0<=o) (G:o<=18446744073709551615) :
  Calls Tryz.prog 145 #[.pointer (some a),.int .u64 o,.int .i64 t] w fun e w'=>e=.returned (.tuple #[.int .u64 (wSwap v o t),.bool (wSwapOk v o t)])/\w.setCell a (.int .u64 (wSwap v o t))=w':=by
 by_cases hv:v=o
 .subst hv
  cases hm:wMay (v % 4) t
  .refine (swap_maynot a v t w hc F G hm).mono fun e w' ⟨z,hw⟩=>?_
   have h:wSwap v v t=v:=by simp[wSwap,hm]
   have u:wSwapOk v v t=false:=by simp[wSwapOk,hm]
   rw[h,u,setCell_self hc]; exact⟨z,hw⟩
  .refine (swap_goes a v t w hc I F G hm).mono fun e w' ⟨z,hw⟩=>?_
   have h:wSwap v v t=wTo v t:=by simp[wSwap,hm]
   have u:wSwapOk v v t=true:=by simp[wSwapOk,hm]
   rw[h,u]; exact⟨z,hw⟩
 .refine (swap_other a v o t w hc F G hv).mono fun e w' ⟨z,hw⟩=>?_
  have h:wSwap v o t=v:=by simp[wSwap,hv]
  have u:wSwapOk v o t=false:=by simp[wSwapOk,hv]
  rw[h,u,setCell_self hc]; exact⟨z,hw⟩
theorem Awake_any (w:World) :
  Calls Tryz.prog 406 #[] w fun e w'=>e=.returned (.bool true)/\w=w':=by
 go_enter Tryz.func406,Tryz.ntmps406
 go_wp2_with fail
 refine (awake_any _).mono ?_
 rintro e w' ⟨rfl,rfl⟩
 go_wp2_with fail
 go_ret
 exact⟨rfl,rfl⟩
theorem awake2_any (w:World) :
  Calls Tryz.prog 405 #[] w fun e w'=>e=.returned (.bool true)/\w.alloc (.cells #[.int .u64 25] 191)=w':=by
 go_enter Tryz.func405,Tryz.ntmps405
 go_wp2_with fail
 refine (new_any _ _).mono ?_
 rintro e w' ⟨rfl,rfl⟩
 go_wp2_with fail
 refine (swap_goes _ _ _ _ (by go_simp) (by go_simp) (by decide) (by decide) (by decide)).mono ?_
 rintro e w' ⟨rfl,rfl⟩
 rw[show wTo 20 1=25 by decide]
 go_wp2_with fail
 refine (swap_other _ 25 _ _ _ (by go_simp) (by decide) (by decide) (by decide)).mono ?_
 rintro e w' ⟨rfl,rfl⟩
 go_wp2_with fail
 refine (Awake_any _).mono ?_
 rintro e w' ⟨rfl,rfl⟩
 go_wp2_with fail
 go_ret
 exact⟨rfl,rfl⟩
end Go.Proofs.YtoiklelghfckgaaGreatDoor.Wd
namespace Go.Proofs.YtoiklelghfckgaaGreatDoor.Rw
open Go Go.ChangeShapes Go.WideShapes Go.ChangeAt Go.RowKit Go.Deep
structure Rd {α:Type} (enc:α->Value) (w:World) (B:Nat) (A:Option Addr) (n c:Nat) (xs:List α):Prop where
 len:xs.length=n
 cap:n<=c
 top:c<=9223372036854775807
 at_:0 < n -> ∃ b o,A=some ⟨b,o,none⟩/\b < B /\ ∀ j x,xs[j]? = some x->w.cell? ⟨b,o+j,none⟩=some (enc x)
section
variable {α:Type} {enc:α->Value} {w w':World} {B B':Nat} {A:Option Addr} {n c:Nat} {xs:List α}
theorem Rd.nil_:Rd enc w B none 0 0 []:=⟨rfl,Nat.le_refl _,by omega,fun h=>absurd h (by omega)⟩
theorem Rd.keep (h:Rd enc w B A n c xs) (hk:∀ p:Addr,p.block < B->w'.cell? p=w.cell? p):Rd enc w' B A n c xs:=
 ⟨h.len,h.cap,h.top,fun hn=>by
  obtain⟨b,o,e,u,hc⟩:=h.at_ hn
  exact⟨b,o,e,u,fun j x hx=>(hk ⟨b,o+j,none⟩ u).trans (hc j x hx)⟩⟩
theorem Rd.below (h:Rd enc w B A n c xs) (u:Below B w w'):Rd enc w' B A n c xs:=h.keep fun _ z=>u.cell z
theorem Rd.more (h:Rd enc w B A n c xs) (u:B<=B'):Rd enc w B' A n c xs:=
 ⟨h.len,h.cap,h.top,fun hn=>by
  obtain⟨b,o,e,z,hc⟩:=h.at_ hn
  exact⟨b,o,e,by omega,hc⟩⟩
theorem Rd.later (h:Rd enc w w.heap.size A n c xs) (u:Below w.heap.size w w'):Rd enc w' w'.heap.size A n c xs:=(h.below u).more u.size
theorem Rd.drew (h:Rd enc w B A n c xs):Rd enc w.drew B A n c xs:=⟨h.len,h.cap,h.top,h.at_⟩
theorem Rd.alloc (h:Rd enc w B A n c xs) (u:B<=w.heap.size) (o:Obj):Rd enc (w.alloc o) B A n c xs:=h.keep fun p z=>World.cell?_alloc_lt w o p (by omega)
theorem Rd.setCell (h:Rd enc w B A n c xs) {p:Addr} (z:B<=p.block) (u:Value):Rd enc (w.setCell p u) B A n c xs:=
 h.keep fun q hq=>World.cell?_setCell_other w p q u (fun e=>by subst e; omega)
theorem Rd.grown (h:Rd enc w B A n c xs) {row:Option Nat} (u:w.grownBy w' row) (F:B<=w.heap.size) (z:∀ g,row=some g->B<=g):Rd enc w' B A n c xs:=
 h.keep fun p G=>World.cell?_of_block (u.block p.block (by omega) (fun e=>by have:=z _ e.symm; omega))
theorem Rd.setOther (h:Rd enc w B A n c xs) {p:Addr} {v:Value} (J:w.cell? p=some v) (I:∀ x,enc x≠v) (u:Value):Rd enc (w.setCell p u) B A n c xs:=
 ⟨h.len,h.cap,h.top,fun hn=>by
  obtain⟨b,o,e,G,hc⟩:=h.at_ hn
  refine⟨b,o,e,G,fun j x hx=>?_⟩
  have z:=hc j x hx
  by_cases e:p=⟨b,o+j,none⟩
  .subst e
   rw[J] at z
   injection z with z
   exact absurd z.symm (I x)
  .exact (World.cell?_setCell_other w p _ u (fun F=>e F)).trans z⟩
theorem Rd.get (h:Rd enc w B A n c xs) {k:Nat} (hk:k < n):∃ b o x,A=some ⟨b,o,none⟩/\b < B/\xs[k]? = some x/\w.cell? ⟨b,o+k,none⟩=some (enc x):=by
 obtain⟨b,o,e,z,hc⟩:=h.at_ (by omega)
 have u:k < xs.length:=by have:=h.len; omega
 exact⟨b,o,xs[k],e,z,List.getElem?_eq_getElem u,hc k _ (List.getElem?_eq_getElem u)⟩
theorem Rd.front (h:Rd enc w B A n c xs) {i:Nat} (hi:i<=n):Rd enc w B A i c (xs.take i):=
 ⟨by rw[List.length_take,h.len]; omega,by have:=h.cap; omega,h.top,fun hn=>by
  obtain⟨b,o,e,u,hc⟩:=h.at_ (by omega)
  exact⟨b,o,e,u,fun j x hx=>hc j x (by rw[List.getElem?_take] at hx; split at hx <;> simp_all)⟩⟩
theorem Rd.back (h:Rd enc w B A n c xs) {i b o:Nat} (hi:i<=n) (hA:A=some ⟨b,o,none⟩) {A':Option Addr} (u:i < n->A'=some ⟨b,o+i,none⟩):Rd enc w B A' (n - i) (c - i) (xs.drop i):=
 ⟨by rw[List.length_drop,h.len],by have:=h.cap; omega,by have:=h.top; omega,fun hn=>by
  obtain⟨b',F,e,z,hc⟩:=h.at_ (by omega)
  rw[hA] at e
  injection e with e
  injection e with e1 e2
  subst e1 e2
  exact⟨b,o+i,u (by omega),z,fun j x hx=>by rw[Nat.add_assoc]; exact hc (i+j) x (by rw[List.getElem?_drop] at hx; exact hx)⟩⟩
theorem Rd.of_own {base:Nat} {e:TypeId} {v:Value} (h:w.ownsRow base e 1 v n (xs.map enc)):∃ A c,v=.slice A n c/\Rd enc w w.heap.size A n c xs:=by
 have z:xs.length=n:=by have:=h.1; simpa using this
 rcases h.2 with ⟨rfl,rfl⟩ | ⟨g,cap,I,rfl,J,Y,G,u,W,a0⟩
 .obtain rfl:=List.eq_nil_of_length_eq_zero z
  exact⟨none,0,rfl,Rd.nil_⟩
 .unfold maxLen at u
  have F:g < w.heap.size:=(h.lt g rfl).2
  refine⟨_,_,rfl,z,G,u,fun _=>⟨g,0,rfl,F,fun j x hx=>?_⟩⟩
  rw[Nat.zero_add,h.cellAt j (by rw[Nat.mul_one]; have:=(List.getElem?_eq_some_iff.1 hx).1; omega),List.getElem?_map,hx]
  rfl
theorem Rd.own_rd {base:Nat} {e:TypeId} (h:w.ownsRow base e 1 (.slice A n c) n (xs.map enc)):Rd enc w w.heap.size A n c xs:=by
 obtain⟨A',z,e,u⟩:=Rd.of_own h
 injection e with e1 _ e2
 subst e1 e2
 exact u
end
section
variable {H:Type} {en:TypeId × Value->H} {P:Program} {w:World} {base:Nat} {spare:Nat->Bool} {held:Bool}
theorem Rd.open_ {t e:TypeId} {k:IntKind} {v:Value} {d:DataW H} {p:List MemPlace} {b0:Nat} (ht:P.underlying t=some (.slice e)) (he:P.underlying e=some (.int k)) (hC:P.cellsOf e=1)
  (hv:Value.okWide P w .any b0 t v) (h:DataW.Trod en P w base spare held t v d p) :
  ∃ (A:Option Addr) (n c:Nat) (xs:List Int),v=.slice A n c/\Rd (Value.int k) w w.heap.size A n c xs /\ ∀ x∈xs,(Lit.int k x).wf=true:=by
 obtain⟨a0,a1,a7,rfl⟩:=okWide_slice ht hv
 obtain⟨a9,u⟩:=h
 rcases open_slice ht u with ⟨I,_⟩ | ⟨a,len,cap,m,n,D,Pl,J,_,hl,Y,a5,_,hi⟩
 .simp[Value.cells] at I
  obtain⟨rfl,rfl,rfl⟩:=I
  exact⟨none,0,0,[],rfl,Rd.nil_,fun x hx=>by cases hx⟩
 .simp[Value.cells] at J
  obtain⟨rfl,rfl,rfl⟩:=J
  have a3:∀ i,i < a1 -> ∃ x:Int,w.cell? (a.add i)=some (.int k x)/\(Lit.int k x).wf=true:=by
   intro i ac
   obtain⟨a8,hc,a6⟩:=hi i (by rw[a5]; split <;> omega)
   rw[hC] at hc
   obtain⟨_,aa,a2⟩:=World.cells?_some hc
   obtain⟨z,hz,_,hw⟩:=DataW.trod_int he a6
   refine⟨z,?_,hw⟩
   have F:=a2 0 (by omega)
   rw[Go.Deep.add_add] at F
   simp only[Nat.mul_one,Nat.add_zero] at F
   rw[F,hz]
   rfl
  obtain⟨f,u⟩:=choose_lt a3
  unfold maxLen at Y
  refine⟨_,_,_,(List.range a1).map f,rfl,⟨by simp,hl,Y,fun hn=>?_⟩,?_⟩
  .have G:a.spot=none:=Lw.spot_none (a:=a) (by have:=(u 0 hn).1; simpa [Addr.add] using this)
   refine⟨a.block,a.off,by cases a; simp at G; subst G; rfl,?_,fun j x hx=>?_⟩
   .have:=Lw.ltH (u 0 hn).1
    simpa [Addr.add] using this
   .obtain⟨W,rfl⟩:=List.getElem?_eq_some_iff.1 hx
    simp at W
    rw[<- Lw.add_eq G,(u j W).1]
    simp
  .intro x hx
   obtain⟨i,a4,rfl⟩:=List.mem_map.1 hx
   exact (u i (List.mem_range.1 a4)).2
end
theorem own_slice {w:World} {base:Nat} {e:TypeId} {size:Nat} {v:Value} {n:Nat} {xs:List Value} (h:w.ownsRow base e size v n xs):∃ A c,v=.slice A n c:=by
 rcases h.2 with ⟨rfl,rfl⟩ | ⟨g,cap,u,rfl,_⟩
 .exact⟨_,_,rfl⟩
 .exact⟨_,_,rfl⟩
section
variable {α:Type} {enc:α->Value} {P:Program} (w:World)
theorem run_append_rd (base:Nat) (t ty e:TypeId) (i:TypeInfo) (z:Value) (Y:Nat) (ht:P.underlying t=some (.slice e)) (hi:P.info? e=some i) (hz:i.zero=some z)
  (a8:i.size=1) (a3:i.bytes=Y) (a9:z.cells.size=1)
  (v:Value) (n:Nat) (xs:List Value) (a0:w.ownsRow base e 1 v n xs)
  (B:Nat) (A:Option Addr) (m c:Nat) (W:List α) (I:Rd enc w B A m c W) (h1:∀ y,(enc y).oneCell'=true)
  (a1:n+m<=maxLen) (a4:(n+m) * Y<=140737488355328) (a2:base<=w.heap.size) :
  ∃ G w',(Builtin.append_ #[t,t] ty #[v,.slice A m c]).run P w=.ok G w'/\w'.ownsRow base e 1 G (n+m) (xs ++ W.map enc)/\w.grownBy w' v.ownBlock /\
   (G.ownBlock=v.ownBlock\/G.ownBlock=some w.heap.size):=by
 by_cases hA:A=none
 .subst hA
  have hm:m=0:=by
   rcases Nat.eq_zero_or_pos m with F | F
   .exact F
   .obtain⟨b,o,h,_⟩:=I.at_ F
    cases h
  subst hm
  obtain rfl:=List.eq_nil_of_length_eq_zero I.len
  refine⟨v,w,?_,by simpa using a0,World.grownBy.refl w _,.inl rfl⟩
  rcases a0.2 with ⟨rfl,rfl⟩ | ⟨g,cap,aa,rfl,_,_,a6,_⟩
  .simp[Builtin.append_,run_underlying ht,sizeOf,typeInfo,hi,Builtin.lenOf,Builtin.firstCells]
  .simp[Builtin.append_,run_underlying ht,sizeOf,typeInfo,hi,Builtin.lenOf,Builtin.firstCells,a6,storeCells]
 .obtain⟨ad,rfl⟩:=Option.ne_none_iff_exists'.1 hA
  have a5:∀ j u,(W.map enc)[j]? = some u->w.cell? (ad.add j)=some u:=by
   intro j u J
   rcases Nat.eq_zero_or_pos m with F | F
   .subst F
    obtain rfl:=List.eq_nil_of_length_eq_zero I.len
    simp at J
   .obtain⟨b,o,h,_,hc⟩:=I.at_ F
    injection h with h
    subst h
    rw[List.getElem?_map] at J
    obtain⟨y,hy,rfl⟩:=Option.map_eq_some_iff.1 J
    rw[Lw.add_eq rfl]
    exact hc j y hy
  obtain⟨G,w',a7,h2,h3,_,h5⟩:=run_append_own_at (P:=P) w base t ty e i z 1 Y ht hi hz a8 a3 a9 (by omega) v n xs a0 ad m c (W.map enc) (by simp[I.len]) a5
   (fun u J=>by obtain⟨y,_,rfl⟩:=List.mem_map.1 J; exact h1 y) a1 a4 a2
  exact⟨G,w',a7,h2,h3,h5⟩
theorem apRd {ops:Array Oper} {rest:List Oper} {o:Oper} {a:Act} {Q:Exit->Act->World->Prop} (a4:o.guard=none) (s x:Operand) (t:TypeId)
  (ho:o.op=.call { callee:=.builtin .append,args:=#[s,x],argTypes:=#[t,t] })
  (base:Nat) (e:TypeId) (i:TypeInfo) (z:Value) (F:Nat) (ht:P.underlying t=some (.slice e)) (hi:P.info? e=some i) (hz:i.zero=some z)
  (a7:i.size=1) (a2:i.bytes=F) (a8:z.cells.size=1)
  (v:Value) (n:Nat) (xs:List Value) (hs:a.eval s=v) (a5:w.ownsRow base e 1 v n xs)
  (B:Nat) (A:Option Addr) (m c:Nat) (G:List α) (hx:a.eval x=.slice A m c) (hr:Rd enc w B A m c G) (J:∀ y,(enc y).oneCell'=true)
  (k:Nat) (hk:n+m=k) (zs:List Value) (a9:xs ++ G.map enc=zs) (a0:n+m<=maxLen) (a3:(n+m) * F<=140737488355328) (a1:base<=w.heap.size)
  (h:∀ A' u w',w'.ownsRow base e 1 (.slice A' k u) k zs->w.grownBy w' v.ownBlock->((Value.slice A' k u).ownBlock=v.ownBlock\/(Value.slice A' k u).ownBlock=some w.heap.size)->wpList P ops Q rest (a.put o.dst (.slice A' k u)) w'):wpList P ops Q (o :: rest) a w:=by
 subst hk a9
 obtain⟨v',w',a6,I,W,Y⟩:=run_append_rd (P:=P) w base t o.type e i z F ht hi hz a7 a2 a8 v n xs a5 B A m c G hr J a0 a3 a1
 obtain⟨A',u,rfl⟩:=own_slice I
 exact Lib.wpList_append_run w a4 s x t t ho v _ hs hx _ w' a6 (h A' u w' I W Y)
end
theorem own_mono {w:World} {base base':Nat} {e:TypeId} {size:Nat} {v:Value} {n:Nat} {xs:List Value} (h:w.ownsRow base e size v n xs) (I:base'<=base):w.ownsRow base' e size v n xs:=by
 refine⟨h.1,?_⟩
 rcases h.2 with h | ⟨g,cap,u,z,G,F⟩
 .exact .inl h
 .exact .inr ⟨g,cap,u,z,by omega,F⟩
theorem bdN {B:Nat} {a w:World} (h:Below B a w) (n:Nat):Below B a (w.drewN n):=⟨h.os,h.tape,h.output,h.size,h.block⟩
theorem gfz {w w':World} {row:Option Nat} (u:w.grownBy w' row) {a:Addr} {x:Bool} (h:w.frozen? a=x) (z:a.block < w.heap.size) (F:some a.block≠row):w'.frozen? a=x:=
 (World.frozen?_of_block (u.block a.block z F)).trans h
theorem alC {w:World} {a:Addr} {v:Value} (h:w.cell? a=some v) (o:Obj):(w.alloc o).cell? a=some v:=
 (World.cell?_alloc_lt w o a (Lw.ltH h)).trans h
theorem alloc_frozen {w:World} {a:Addr} {x:Bool} (h:w.frozen? a=x) (u:a.block < w.heap.size) (o:Obj):(w.alloc o).frozen? a=x:=
 (Below.frozen ((Below.refl w.heap.size w).alloc (Nat.le_refl _) o) u).trans h
theorem rd_one {α:Type} {enc:α->Value} (w:World) (y:α) (t:TypeId):Rd enc (w.alloc (.cells #[enc y] t)) (w.heap.size+1) (some ⟨w.heap.size,0,none⟩) 1 1 [y]:=
 ⟨rfl,Nat.le_refl _,by omega,fun _=>⟨w.heap.size,0,rfl,by omega,fun j x hx=>by
  match j,hx with
  | 0,hx=>
   simp at hx
   subst hx
   simp⟩⟩
end Go.Proofs.YtoiklelghfckgaaGreatDoor.Rw
namespace Go.Proofs.YtoiklelghfckgaaGreatDoor.Sn
def sIdx (l:List Int) (x:Int):Int:=if x∈l then (l.idxOf x:Int) else -1
theorem sIdx_hit (l:List Int) (x:Int) (k:Nat) (h:l[k]? = some x) (hn:x ∉ l.take k):sIdx l x=k:=by
 have hk:=(List.getElem?_eq_some_iff.1 h).1
 have z:x∈l:=List.mem_of_getElem? h
 have e:l=l.take k ++ l.drop k:=(List.take_append_drop k l).symm
 have u:l.drop k=x :: l.drop (k+1):=by
  rw[List.drop_eq_getElem_cons hk]
  congr 1
  exact (List.getElem?_eq_some_iff.1 h).2
 unfold sIdx
 rw[if_pos z]
 conv=>lhs; rw[e]
 rw[List.idxOf_append,if_neg hn,u,List.idxOf_cons_self]
 simp; omega
theorem sIdx_miss (l:List Int) (x:Int) (h:x ∉ l):sIdx l x = -1:=by simp[sIdx,h]
theorem sIdx_neg (l:List Int) (x:Int):sIdx l x < 0↔x ∉ l:=by
 unfold sIdx; split <;> simp_all <;> omega
theorem take_snoc {α:Type} {l:List α} {k:Nat} {x:α} (h:l[k]? = some x):l.take (k+1)=l.take k ++ [x]:=by
 obtain⟨hk,rfl⟩:=List.getElem?_eq_some_iff.1 h
 exact List.take_succ_eq_append_getElem hk
theorem not_mem_snoc {l:List Int} {k:Nat} {x y:Int} (h:l[k]? = some y) (hn:x ∉ l.take k) (u:x≠y):x ∉ l.take (k+1):=by
 rw[take_snoc h]
 simp[hn,u]
def sWith (l:List Int) (n:Int):List Int:=if n∈l then l else l ++ [n]
def sWithout (l:List Int) (n:Int):List Int:=l.filter (fun x=>x != n)
def sOf (l:List Int):List Int:=l.foldl sWith []
theorem sOf_snoc (l:List Int) (x:Int):sOf (l ++ [x])=sWith (sOf l) x:=by simp[sOf,List.foldl_append]
theorem sOf_take {l:List Int} {k:Nat} {x:Int} (h:l[k]? = some x):sOf (l.take (k+1))=sWith (sOf (l.take k)) x:=by rw[take_snoc h,sOf_snoc]
theorem mem_sWith (l:List Int) (n x:Int):x∈sWith l n↔x∈l\/x=n:=by
 unfold sWith; split
 .next h=>exact⟨.inl,fun u=>u.elim id (fun e=>e ▸ h)⟩
 .simp
theorem mem_fold (l:List Int):∀ (a:List Int) (x:Int),x∈l.foldl sWith a↔x∈a\/x∈l:=by
 induction l with
 | nil=>intro a x; simp
 | cons y l ih=>intro a x; rw[List.foldl_cons,ih,mem_sWith,List.mem_cons,or_assoc]
theorem mem_sOf (l:List Int) (x:Int):x∈sOf l↔x∈l:=by rw[sOf,mem_fold]; simp
theorem nodup_sWith {l:List Int} (h:l.Nodup) (n:Int):(sWith l n).Nodup:=by
 unfold sWith; split
 .exact h
 .next hn=>rw[List.nodup_append]; exact⟨h,by simp,fun a ha b u=>by simp at u; subst u; exact fun e=>hn (e ▸ ha)⟩
theorem nodup_fold (l:List Int):∀ a:List Int,a.Nodup->(l.foldl sWith a).Nodup:=by
 induction l with
 | nil=>intro a h; exact h
 | cons y l ih=>intro a h; exact ih _ (nodup_sWith h y)
theorem nodup_sOf (l:List Int):(sOf l).Nodup:=nodup_fold l [] List.nodup_nil
theorem nodup_sWithout {l:List Int} (h:l.Nodup) (n:Int):(sWithout l n).Nodup:=h.filter _
theorem mem_sWithout (l:List Int) (n x:Int):x∈sWithout l n↔x∈l/\x≠n:=by simp[sWithout]
theorem sWith_len (l:List Int) (n:Int):(sWith l n).length<=l.length+1:=by unfold sWith; split <;> simp
theorem sWithout_none {l:List Int} {n:Int} (h:n ∉ l):sWithout l n=l:=by
 unfold sWithout
 exact List.filter_eq_self.2 fun x hx=>by simp; exact fun e=>h (e ▸ hx)
theorem sWithout_cut {l:List Int} {n:Int} {k:Nat} (a0:l.Nodup) (h:l[k]? = some n):l.take k ++ l.drop (k+1)=sWithout l n:=by
 have hk:=(List.getElem?_eq_some_iff.1 h).1
 have W:l.drop k=n :: l.drop (k+1):=by
  rw[List.drop_eq_getElem_cons hk]
  congr 1
  exact (List.getElem?_eq_some_iff.1 h).2
 have e:l=l.take k ++ n :: l.drop (k+1):=by rw[<- W,List.take_append_drop]
 have z:=a0
 rw[e,List.nodup_append] at z
 obtain⟨_,I,J⟩:=z
 have F:n ∉ l.take k:=fun Y=>J n Y n (by simp) rfl
 have G:n ∉ l.drop (k+1):=(List.nodup_cons.1 I).1
 conv=>rhs; rw[e]
 unfold sWithout
 rw[List.filter_append,List.filter_cons]
 have b1:=sWithout_none F
 have u:=sWithout_none G
 unfold sWithout at b1 u
 rw[b1,u]
 simp
theorem sIdx_get {l:List Int} {x:Int} (h:x∈l):∃ k:Nat,sIdx l x=k/\k < l.length/\l[k]? = some x:=by
 refine⟨l.idxOf x,by simp[sIdx,h],List.idxOf_lt_length_of_mem h,?_⟩
 rw[List.getElem?_eq_getElem (List.idxOf_lt_length_of_mem h),List.getElem_idxOf]
def U64s (l:List Int):Prop:=∀ x∈l,0<=x/\x<=18446744073709551615
theorem U64s.with_ {l:List Int} (h:U64s l) {n:Int} (u:0<=n) (z:n<=18446744073709551615):U64s (sWith l n):=fun x hx=>by
 rcases (mem_sWith l n x).1 hx with hx | rfl
 .exact h x hx
 .exact⟨u,z⟩
theorem U64s.without {l:List Int} (h:U64s l) (n:Int):U64s (sWithout l n):=fun x hx=>h x ((mem_sWithout l n x).1 hx).1
theorem U64s.of {l:List Int} (h:U64s l):U64s (sOf l):=fun x hx=>h x ((mem_sOf l x).1 hx)
theorem U64s.get {l:List Int} (h:U64s l) {k:Nat} {x:Int} (hx:l[k]? = some x):0<=x/\x<=18446744073709551615:=h x (List.mem_of_getElem? hx)
end Go.Proofs.YtoiklelghfckgaaGreatDoor.Sn
namespace Go.Proofs.YtoiklelghfckgaaGreatDoor.Sl
open Go.ChangeShapes Go.WideShapes Go.ChangeAt Go.RowKit Rw Sn
theorem info_u64:(Tryz.prog.info? 25).map (fun i=>(i.zero,i.size,i.bytes))=some (some (.int .u64 0),1,8):=by kernel_rfl
theorem index_any (A:Option Addr) (n c:Nat) (xs:List Int) (x:Int) (B:Nat) (w:World) (h:Rd (Value.int .u64) w B A n c xs) :
  Calls Tryz.prog 47 #[.slice A n c,.int .u64 x] w fun e w'=>e=.returned (.int .i64 (sIdx xs x))/\w=w':=by
 have hn:n<=9223372036854775807:=by have:=h.cap; have:=h.top; omega
 have z:=Lh h
 clear h
 go_enter Tryz.func47,Tryz.ntmps47
 go_wp2
 go_loop [5,8] (fun _ i=>∃ k:Nat,k<=n/\i=.int .i64 k/\x ∉ xs.take k) (fun _ i=>n - (intOf i).toNat)
 case atStart=>exact⟨0,Nat.zero_le _,rfl,by simp⟩
 case round=>
  obtain⟨k,hk,rfl,G⟩:=hrel
  have u:=Lh G
  clear G
  by_cases hlt:k < n
  .obtain⟨b,o,y,rfl,W,I,Y⟩:=z.out.get hlt
   have F:=Lh I
   clear I
   by_cases hxy:x=y
   .subst hxy
    go_wp2
    go_ret
    exact⟨by rw[sIdx_hit xs x k F.out u.out]; rfl,rfl⟩
   .have hq:(x == y)=false:=by simpa using hxy
    have J:=Lh hxy
    clear hxy
    go_wp2
    go_round
    case rel=>exact⟨k+1,by omega,by go_num,not_mem_snoc F.out u.out J.out⟩
    case measure=>simp[intOf]; omega
  .have a0:k=n:=by omega
   go_wp2
   go_ret
   exact⟨by rw[sIdx_miss xs x (by have:=u.out; rwa [List.take_of_length_le (by have:=z.out.len; omega)] at this)]; rfl,rfl⟩
theorem take_eq_snoc {xs u:List Int} {k:Nat} {x:Int} (h:xs.take k=u.take k) (hx:xs[k]? = some x) (z:u[k]? = some x):xs.take (k+1)=u.take (k+1):=by rw[take_snoc hx,take_snoc z,h]
theorem ne_of_at {xs u:List Int} {k:Nat} {x y:Int} (hx:xs[k]? = some x) (h:u[k]? = some y) (z:x≠y):xs≠u:=fun e=>by subst e; rw[hx] at h; injection h with h; exact z h
theorem equal_any (A A':Option Addr) (n c m c':Nat) (xs F:List Int) (B B':Nat) (w:World) (h:Rd (Value.int .u64) w B A n c xs) (u:Rd (Value.int .u64) w B' A' m c' F) :
  Calls Tryz.prog 270 #[.slice A n c,.slice A' m c'] w fun e w'=>e=.returned (.bool (decide (xs=F))) /\ ∃ q,w.drewN q=w':=by
 have hn:n<=9223372036854775807:=by have:=h.cap; have:=h.top; omega
 have hm:m<=9223372036854775807:=by have:=u.cap; have:=u.top; omega
 have I:=Lh h.len
 have J:=Lh u.len
 have HR:=Lh h
 have a1:=Lh u
 clear h u
 by_cases hnm:n=m
 .subst hnm
  go_enter Tryz.func270,Tryz.ntmps270
  go_wp2
  go_loopw [5,13] (fun _ i wr=>∃ k q:Nat,k<=n/\i=.int .i64 k/\wr=w.drewN q/\xs.take k=F.take k) (fun _ i _=>n - (intOf i).toNat)
  case atStart=>exact⟨0,0,Nat.zero_le _,rfl,rfl,rfl⟩
  case round=>
   obtain⟨k,q,hk,rfl,rfl,a0⟩:=hrel
   have G:=Lh a0
   clear a0
   by_cases hlt:k < n
   .obtain⟨b,o,x,rfl,hb,hx,a4⟩:=HR.out.get hlt
    obtain⟨b',o',y,rfl,a2,hy,a5⟩:=a1.out.get hlt
    have W:=Lh hx
    have Y:=Lh hy
    clear hx hy
    by_cases hxy:x=y
    .subst hxy
     go_wp2
     go_quiet (fail)
     go_wp2
     go_roundw
     case rel=>exact⟨k+1,_,by omega,by go_num,rfl,take_eq_snoc G.out W.out Y.out⟩
     case measure=>simp[intOf]; omega
    .have hq:(x != y)=true:=by simpa using hxy
     have z:=Lh hxy
     clear hxy
     go_wp2
     go_quiet (fail)
     go_wp2
     go_ret
     exact⟨by rw[decide_eq_false (ne_of_at W.out Y.out z.out)]; rfl,_,(World.drewN_drewN _ _ _).symm⟩
   .have a6:k=n:=by omega
    go_wp2
    go_ret
    refine⟨?_,_,rfl⟩
    have e:=G.out
    have hl:=I.out
    have a7:=J.out
    rw[List.take_of_length_le (by omega),List.take_of_length_le (by omega)] at e
    rw[decide_eq_true e]
    rfl
 .have hb:((n:Int) != (m:Int))=true:=by rw[bne_iff_ne]; omega
  have a3:(n != m)=true:=by simpa using hnm
  have z:=Lh hnm
  clear hnm
  go_enter Tryz.func270,Tryz.ntmps270
  go_wp2
  go_ret
  exact⟨by rw[decide_eq_false (fun e=>z.out (by rw[<- I.out,<- J.out,e]))]; rfl,0,rfl⟩
theorem one_u64 (y:Int):(Value.int .u64 y).oneCell'=true:=rfl
theorem clone_any (A:Option Addr) (n c:Nat) (xs:List Int) (B:Nat) (w:World) (h:Rd (Value.int .u64) w B A n c xs) (G:B<=w.heap.size) (a2:n * 8<=140737488355328) :
  Calls Tryz.prog 112 #[.slice A n c] w fun e w'=>∃ A' z,e=.returned (.slice A' n z)/\w'.ownsRow w.heap.size 25 1 (.slice A' n z) n (xs.map (Value.int .u64))/\Below w.heap.size w w':=by
 have hn:n<=9223372036854775807:=by have:=h.cap; have:=h.top; omega
 obtain⟨i0,hi,W,Y,a0⟩:=info_parts info_u64
 cases A with
 | none=>
  have u:n=0:=by
   rcases Nat.eq_zero_or_pos n with u | u
   .exact u
   .obtain⟨b,o,e,_⟩:=h.at_ u
    cases e
  subst u
  obtain rfl:=List.eq_nil_of_length_eq_zero h.len
  clear h
  have hk:=@Lib.run_eql_slice_nil Tryz.prog
  go_enter Tryz.func112,Tryz.ntmps112
  go_wp2
  go_ret
  exact⟨_,_,rfl,World.ownsRow_nil _ _ _ _,Below.refl _ _⟩
 | some a=>
  have F:=Lh h
  clear h
  have hk:=@Lib.run_eql_slice_nil Tryz.prog
  go_enter Tryz.func112,Tryz.ntmps112
  go_wp2_with (at_builtin; refine apRd _ rfl _ _ 30 rfl w.heap.size 25 i0 (.int .u64 0) 8 Tryz.underlying30 hi W Y a0 rfl _ 0 [] rfl (World.ownsRow_lit _ #[] 0 (Nat.le_refl _) (by decide) rfl) B (some a) n c xs rfl (F.out.alloc G _) one_u64 n (Nat.zero_add _) (xs.map (Value.int .u64)) rfl ?_ ?_ ?_ ?_)
  .unfold maxLen; omega
  .omega
  .simp
  .intro A' z w' J I a1
   go_wp2
   go_ret
   refine⟨A',z,rfl,J,((Below.refl _ _).alloc (Nat.le_refl _) _).grown I (by simp) (fun k hk=>?_)⟩
   simp[Value.ownBlock] at hk
   omega
theorem grow_nil (n:Nat) (w:World) (a0:n * 8<=140737488355328) :
  Calls Tryz.prog 259 #[.slice none 0 0,.int .i64 n] w fun e w'=>∃ A c,e=.returned (.slice A 0 c)/\w'.ownsRow w.heap.size 25 1 (.slice A 0 c) 0 [] /\ Below w.heap.size w w':=by
 obtain⟨F,hi,W,a1,z⟩:=info_parts info_u64
 by_cases h0:n=0
 .subst h0
  go_enter Tryz.func259,Tryz.ntmps259
  go_wp2
  go_ret
  exact⟨_,_,rfl,World.ownsRow_nil _ _ _ _,Below.refl _ _⟩
 .have h:=fun Y=>Lib.run_append_grow_zeros (P:=Tryz.prog) w 30 3 Y 25 F (.int .u64 0) .i64 .i64 Tryz.underlying30 Tryz.underlying3 hi W none 0 0 [] (run_firstCells_none w.drew F.size 0 0 0) n (by omega) (by omega) (by omega) (by omega) (by rw[z]; omega) (by rw[z]; exact growslice_fits (by omega) (by omega))
  have J:=grownCap_ge w (0+n) 0 25
  have u:=grownCap_le_maxLen w (0+n) 0 25 (by unfold maxLen; omega)
  unfold maxLen at u
  generalize grownCap w (0+n) 0 25=G at h J u
  have I:=Lh h
  clear h
  go_enter Tryz.func259,Tryz.ntmps259
  go_wp2_with (at_builtin; refine Lib.wpList_append_run _ rfl _ _ _ _ rfl _ _ rfl rfl _ _ (I.out _) ?_)
  go_ret
  refine⟨_,_,rfl,?_,((Below.refl _ _).drew).alloc (Nat.le_refl _) _⟩
  refine⟨by simp,.inr ⟨w.heap.size,G,_,rfl,Nat.le_refl _,heap_alloc_new w.drew _,Nat.zero_le _,by unfold maxLen; omega,?_,by simp⟩⟩
  simp[size_zeroCells]
  omega
theorem concat_two (g:Nat) (A A':Option Addr) (n c m d B B':Nat) (xs z:List Int) (w:World) (G:w.cell? ⟨g,0,none⟩=some (.slice A n c)) (I:w.cell? ⟨g,1,none⟩=some (.slice A' m d))
  (r0:Rd (Value.int .u64) w B A n c xs) (r1:Rd (Value.int .u64) w B' A' m d z) (hB:B<=w.heap.size) (a3:B'<=w.heap.size) (J:g < w.heap.size) (a7:(n+m) * 8<=140737488355328) :
  Calls Tryz.prog 249 #[.slice (some ⟨g,0,none⟩) 2 2] w fun e w'=>∃ A c,e=.returned (.slice A (n+m) c)/\w'.ownsRow w.heap.size 25 1 (.slice A (n+m) c) (n+m) ((xs ++ z).map (Value.int .u64))/\Below w.heap.size w w':=by
 obtain⟨i0,hi,a0,a1,a2⟩:=info_parts info_u64
 have R0:=Lh r0
 have R1:=Lh r1
 clear r0 r1
 go_enter Tryz.func249,Tryz.ntmps249
 go_wp2_with fail
 refine wp_loop_rounds 3 ?_
 rw[rounds_succ]
 go_wp2_with fail
 rw[rounds_succ]
 go_wp2_with fail
 rw[rounds_succ]
 go_wp2_with fail
 rw[show ((n:Int)+(m:Int))=((n+m:Nat):Int) by omega]
 refine (grow_nil _ _ a7).mono ?_
 rintro e w1 ⟨v,vc,rfl,F,h⟩
 have c0:w1.cell? ⟨g,0,none⟩=some (.slice A n c):=(h.cell (p:=⟨g,0,none⟩) J).trans G
 have c1:w1.cell? ⟨g,1,none⟩=some (.slice A' m d):=(h.cell (p:=⟨g,1,none⟩) J).trans I
 clear G I
 have hs:=h.size
 go_wp2_with fail
 refine wp_loop_rounds 3 ?_
 rw[rounds_succ]
 go_wp2_with (at_builtin; refine apRd _ rfl _ _ 30 rfl w.heap.size 25 i0 (.int .u64 0) 8 Tryz.underlying30 hi a0 a1 a2 rfl _ 0 [] rfl F B A n c xs rfl (R0.out.below (h.mono hB)) one_u64 n (Nat.zero_add _) (xs.map (Value.int .u64)) rfl (by unfold maxLen; omega) (by omega) hs ?_; intro v2 ac w2 Y W a9)
 have u:Below w.heap.size w w2:=h.grown W hs (fun k hk=>(F.lt k hk).1)
 have c2:w2.cell? ⟨g,1,none⟩=some (.slice A' m d):=(World.cell?_of_block (W.block g (by omega) (fun e=>by have:=(F.lt g e.symm).1; omega))).trans c1
 clear c0 c1
 rw[rounds_succ]
 go_wp2_with (at_builtin; refine apRd _ rfl _ _ 30 rfl w.heap.size 25 i0 (.int .u64 0) 8 Tryz.underlying30 hi a0 a1 a2 rfl _ n _ rfl Y B' A' m d z rfl (R1.out.below (u.mono a3)) one_u64 (n+m) rfl ((xs ++ z).map (Value.int .u64)) List.map_append.symm (by unfold maxLen; omega) (by omega) u.size ?_; intro v3 a8 w3 a6 a5 aa)
 have a4:Below w.heap.size w w3:=u.grown a5 u.size (fun k hk=>(Y.lt k hk).1)
 rw[rounds_succ]
 go_wp2_with fail
 go_ret
 exact⟨v3,a8,rfl,a6,a4⟩
end Go.Proofs.YtoiklelghfckgaaGreatDoor.Sl
namespace Go.Proofs.YtoiklelghfckgaaGreatDoor.Mp
open Go Go.Maps Go.RowKit
def setD (q:IntKind) (acc:List Int):DataW Unit:=setOf (.lit (.bool true)) (acc.map (Lit.int q))
theorem setD_nil (q:IntKind):setD q [] = .map []:=rfl
theorem setD_snoc (q:IntKind) (h:List Int) (x:Int):setD q (h ++ [x])=(setD q h).put (.int q x) (.lit (.bool true)):=by
 unfold setD
 rw[List.map_append,List.map_cons,List.map_nil,setOf_snoc]
theorem setD_is (q:IntKind) (u:List Int):IsMap (setD q u):=by
 unfold setD setOf
 generalize z:(DataW.map [] : DataW Unit)=d
 have h:IsMap d:=by subst z; exact isMap_empty
 clear z
 induction u generalizing d with
 | nil=>exact h
 | cons y l ih=>exact ih _ (h.put _ _)
theorem setD_at (q:IntKind) (x:Int):∀ u:List Int,(setD q u).atKey (.int q x) (.lit (.bool false))=.lit (.bool (decide (x∈u))):=by
 intro u
 induction h:u.length generalizing u with
 | zero=>
  obtain rfl:=List.eq_nil_of_length_eq_zero h
  simp[setD_nil,DataW.atKey]
 | succ n ih=>
  obtain⟨l,y,rfl⟩:∃ l y,u=l ++ [y]:=⟨u.dropLast,u.getLast (by intro e; simp[e] at h),(List.dropLast_concat_getLast _).symm⟩
  rw[setD_snoc]
  by_cases e:x=y
  .subst e
   rw[atKey_put_same (k:=.int q x) (setD_is q l) trivial]
   simp
  .rw[atKey_put_other (by simp[e]),ih l (by simpa using h)]
   simp[e]
theorem lookup_set {P:Program} (w:World) {ops:Array Oper} {rest:List Oper} {o:Oper} {a:Act} {Q:Exit->Act->World->Prop}
  (G:o.guard=none) (m x:Operand) (t:TypeId) (J:o.op=Op.lookup t m x false)
  (k e:TypeId) (q:IntKind) (hk:P.underlying k=some (.int q)) (ht:P.underlying t=some (.map k e)) (u:P.underlying e=some .bool) (hz:(zeroValue e).run P w=.ok (.bool false) w) (b n:Nat) (h:List Int)
  (I:a.eval m=.map (some b)) (W:w.ownsMap P k (plainElem P e) b n (setD q h)) (y:Int) (hx:a.eval x=.int q y) (hw:(Lit.int q y).wf=true)
  (z:wpList P ops Q rest (a.put o.dst (.bool (decide (y∈h)))) w) :
  wpList P ops Q (o :: rest) a w:=by
 refine wpList_plain G fun K' F=>?_
 obtain⟨v,ps,Y,hv⟩:=W.lookup (int_keyed hk) ht hz (plainElem_bool u false) (keyOf_int_mk hk hw)
 rw[setD_at] at hv
 have a0:v=.bool (decide (y∈h)):=by
  unfold plainElem at hv
  rw[u] at hv
  cases v <;> simp at hv
  rw[hv.1]
 subst a0
 unfold Oper.wp
 simp[execOp,J,I,hx,Y,Result.andThen]
 exact F _ _ z
theorem update_set {P:Program} (w:World) {ops:Array Oper} {rest:List Oper} {o:Oper} {a:Act} {Q:Exit->Act->World->Prop}
  (I:o.guard=none) (m x v:Operand) (t:TypeId) (W:o.op=Op.mapUpdate t m x v)
  (k e:TypeId) (q:IntKind) (hk:P.underlying k=some (.int q)) (ht:P.underlying t=some (.map k e)) (G:P.underlying e=some .bool) (b n:Nat) (h:List Int)
  (J:a.eval m=.map (some b)) (Y:w.ownsMap P k (plainElem P e) b n (setD q h)) (hn:n < maxLen) (y:Int) (hx:a.eval x=.int q y) (hv:a.eval v=.bool true) (hw:(Lit.int q y).wf=true)
  (F:∀ w',w'.ownsMap P k (plainElem P e) b (n+1) (setD q (h ++ [y]))->w.grownBy w' (some b)->wpList P ops Q rest (a.put o.dst undef) w') :
  wpList P ops Q (o :: rest) a w:=by
 refine wpList_mapUpdate_own w I m x v t W k e (int_keyed hk) ht (plainElem P e) b n (setD q h) J Y hn _ _ _ hx hv (keyOf_int_mk hk hw) (.lit (.bool true)) [] (plainElem_bool G true) ?_
 intro w' u z
 rw[<- setD_snoc] at u
 exact F w' u z
end Go.Proofs.YtoiklelghfckgaaGreatDoor.Mp
namespace Go.Proofs.YtoiklelghfckgaaGreatDoor.Rw
open Go Go.RowKit
def After (W:World):Type:={w:World // Below W.heap.size W w}
instance {W:World} : Nonempty (After W):=⟨⟨W,Below.refl _ _⟩⟩
theorem After.cell {W:World} (x:After W) {p:Addr} {v:Value} (h:W.cell? p=some v):x.1.cell? p=some v:=(x.2.cell (Lw.ltH h)).trans h
theorem After.same {P:Program} {W:World} {x:After W} {f:FuncId} {args:Array Value} {v:Value}
  (h:Calls P f args x.1 fun e w'=>e=.returned v/\x.1=w'):Calls P f args x.1 fun e w'=>e=.returned v /\ ∃ y:After W,w'=y.1:=
 h.mono fun _ w' ⟨z,u⟩=>⟨z,x,u.symm⟩
theorem rgA {P:Program} {id:Nat} {Q:Exit->Act->World->Prop} {a:Act} {W:World} {l:List Oper} (z:P.follows .mixedOrders=true) (u:Region.lexB .any l.toArray=true)
  (h:wpQuiet P l.toArray (fun w'=>∃ x:After W,w'=x.1) (fun a'=>∀ w',(∃ x:After W,w'=x.1)->Q .normal a' w') l a):(Code.region id l.toArray true).wp P Q a W:=
 wp_region_quiet (C:=fun w'=>∃ x:After W,w'=x.1) z u ⟨⟨W.drew,(Below.refl _ _).drew⟩,rfl⟩ (by simpa using h)
section
variable {P:Program} {ops:Array Oper} {Q:Exit->Act->World->Prop} {md:Region.Mode} {S S1:World->Prop} {n:Nat}
def waitsF (md:Region.Mode) (ops:Array Oper):Nat->Nat->Nat->Bool
 | 0,_,_=>false
 | f+1,j,i=>match ops[j]? with
  | some oj=>oj.after.any fun e=>Region.binds md e && (e.on == i || waitsF md ops f e.on i)
  | none=>false
def tailB (md:Region.Mode) (ops:Array Oper) (n:Nat):Bool:=
 (List.range ops.size).all fun j=>decide (j < n) || (List.range n).all fun i=>waitsF md ops ops.size j i
def Closed (md:Region.Mode) (ops:Array Oper) (listed:Array Bool):Prop:=
 ∀ j oj,ops[j]? = some oj->listed.getD j false=true -> ∀ e∈oj.after,Region.binds md e=true->listed.getD e.on false=true
def closedB (md:Region.Mode) (ops:Array Oper) (listed:Array Bool):Bool:=
 (List.range ops.size).all fun j=>!listed.getD j false || match ops[j]? with
  | some oj=>oj.after.all fun e=>!Region.binds md e || listed.getD e.on false
  | none=>true
theorem closedB_spec {G:Array Bool} (h:closedB md ops G=true):Closed md ops G:=by
 intro j Y F W e J I
 have u:=List.all_eq_true.1 h j (List.mem_range.2 (Array.getElem?_eq_some_iff.1 F).1)
 rw[W] at u
 simp only[F,Bool.not_true,Bool.false_or] at u
 have z:=Array.all_eq_true_iff_forall_mem.1 u e J
 rw[I] at z
 simpa using z
theorem Closed.set {z:Array Bool} (h:Closed md ops z) {j:Nat} (W:j∈Region.ready md ops z):Closed md ops (z.setIfInBounds j true):=by
 intro k ok hk I e G F
 apply getD_set_true
 by_cases hjk:j=k
 .subst hjk
  obtain⟨_,o,u,J⟩:=mem_ready.1 W
  rw[hk] at u
  injection u with u
  subst u
  exact J e G F
 .rw[getD_set_ne false hjk] at I
  exact h k ok hk I e G F
theorem waitsF_listed {G:Array Bool} (J:Closed md ops G) {i:Nat} : ∀ (f j:Nat) (z:Oper),ops[j]? = some z->(∀ e∈z.after,Region.binds md e=true->G.getD e.on false=true) ->
  waitsF md ops f j i=true->G.getD i false=true:=by
 intro f
 induction f with
 | zero=>intro j z _ _ h; cases h
 | succ f ih=>
  intro j z hj W h
  simp only[waitsF,hj] at h
  obtain⟨e,Y,F⟩:=Array.any_eq_true'.1 h
  simp only[Bool.and_eq_true,Bool.or_eq_true,beq_iff_eq] at F
  have I:=W e Y F.1
  rcases F.2 with u | u
  .rw[<- u]; exact I
  .cases ho:ops[e.on]? with
   | none=>cases f <;> simp[waitsF,ho] at u
   | some o=>exact ih e.on o ho (J e.on o ho I) u
theorem tailB_spec (h:tailB md ops n=true) {z:Array Bool} (G:Closed md ops z) {j i:Nat} (J:j∈Region.ready md ops z) (hn:n<=j) (hi:i < n):z.getD i false=true:=by
 obtain⟨_,W,F,I⟩:=mem_ready.1 J
 have u:=List.all_eq_true.1 h j (List.mem_range.2 (Array.getElem?_eq_some_iff.1 F).1)
 simp only[Bool.or_eq_true,decide_eq_true_eq] at u
 rcases u with u | u
 .omega
 .exact waitsF_listed G _ j W F I (List.all_eq_true.1 u i (List.mem_range.2 hi))
theorem unlisted {z:Array Bool} {i:Nat} (h:z.getD i true=false):z.getD i false=false:=by
 rcases Nat.lt_or_ge i z.size with u | u
 .simp[u] at h ⊢; exact h
 .simp[Array.getElem?_eq_none u] at h
def wpAnyT (P:Program) (md:Region.Mode) (ops:Array Oper) (Q:Exit->Act->World->Prop) (n:Nat) (S:World->Prop):Nat->Array Bool->Act->World->Prop
 | 0,listed,a,w=>Region.ready md ops listed=[] /\ Q .normal a w
 | f+1,listed,a,w=>(Region.ready md ops listed=[] -> Q .normal a w) /\
   ∀ i∈Region.ready md ops listed,wpOp P ops Q i (fun a' w'=>(i < n->S w')/\wpAnyT P md ops Q n S f (listed.setIfInBounds i true) a' w') a w
theorem wpAnyT.any:∀ (f:Nat) (u:Array Bool) (a:Act) (w:World),wpAnyT P md ops Q n S f u a w->wpAny P md ops Q f u a w
 | 0,_,_,_,h=>h
 | f+1,_,_,_,h=>⟨h.1,fun i hi=>wpOp_mono (fun a' w' z=>wpAnyT.any f _ a' w' z.2) (h.2 i hi)⟩
theorem wpAnyT.first {i:Nat} {J:Oper} {v:Value} (hi:ops[i]? = some J) (a6:∀ (j:Nat) (o:Oper) cs b,ops[j]? = some o->o.op≠.select cs b)
  (hQ:∀ c a w,Q (.panic c) (a.put J.dst v) w->Q (.panic c) a w) (hT:tailB md ops n=true) (a9:i < n) :
  ∀ (f:Nat) (u:Array Bool) (a:Act) (w:World),
   (∀ j G,ops[j]? = some G->j≠i->u.getD j true=false->(∀ e∈G.after,Region.binds md e=true->e.on≠i)->J.apart ops G=true) ->
   i∈Region.ready md ops u->YieldsIf P ops S J v a->S w->Closed md ops u ->
   wpAnyT P md ops Q n S f (u.setIfInBounds i true) (a.put J.dst v) w->wpAnyT P md ops Q n S (f+1) u a w:=by
 intro f
 induction f with
 | zero=>
  intro u a w _ F hy W _ H
  refine⟨fun h=>(by rw[h] at F; cases F),fun j I=>?_⟩
  by_cases e:j=i
  .subst e
   exact hy.wpOp hi W ⟨fun _=>W,H⟩
  .have:=ready_mono I e
   rw[H.1] at this
   cases this
 | succ f ih=>
  intro u a w a3 F hy W hC H
  have a1:=(mem_ready.1 F).1
  refine⟨fun h=>(by rw[h] at F; cases F),fun j I=>?_⟩
  by_cases e:j=i
  .subst e
   exact hy.wpOp hi W ⟨fun _=>W,H⟩
  .obtain⟨a4,G,a0,a7⟩:=mem_ready.1 I
   have ae:∀ d∈G.after,Region.binds md d=true->d.on≠i:=fun d hd hb a8=>by
    have Y:=a7 d hd hb
    rw[a8] at Y
    rcases Nat.lt_or_ge i u.size with z | z
    .simp[z] at a1 Y; rw[a1] at Y; cases Y
    .simp[Array.getElem?_eq_none z] at Y
   have aa:j < n:=by
    rcases Nat.lt_or_ge j n with z | z
    .exact z
    .have:=tailB_spec hT hC I z a9
     rw[unlisted a1] at this
     cases this
   refine wpOp_mono (fun a' w' h3=>?_) (wpOp_putIf a0 (a3 j G a0 e a4 ae) (fun cs b=>a6 i J cs b hi) (fun cs b=>a6 j G cs b a0) hQ hy (H.2 j (ready_mono I e)))
   obtain⟨af,a2,H'⟩:=h3
   rw[Array.setIfInBounds_comm _ _ (Ne.symm e)] at H'
   refine⟨a2,ih _ a' w' (fun k ok hk ac a5 ad=>a3 k ok hk ac ?_ ad) (ready_mono F (Ne.symm e)) af (a2 aa) (hC.set I) H'⟩
   by_cases hjk:j=k
   .subst hjk; exact a4
   .rw[getD_set_ne true hjk] at a5; exact a5
theorem wpAnyT.firstPure {i:Nat} {J:Oper} {v:Value} (hi:ops[i]? = some J) (a7:∀ (j:Nat) (o:Oper) cs b,ops[j]? = some o->o.op≠.select cs b)
  (hQ:∀ c a w,Q (.panic c) (a.put J.dst v) w->Q (.panic c) a w) :
  ∀ (f:Nat) (u:Array Bool) (a:Act) (w:World),
   (∀ j G,ops[j]? = some G->j≠i->u.getD j true=false->(∀ e∈G.after,Region.binds md e=true->e.on≠i)->J.apart ops G=true) ->
   i∈Region.ready md ops u->YieldsIf P ops (fun _=>True) J v a->(i < n->S w)->(i < n->tailB md ops n=true)->Closed md ops u ->
   wpAnyT P md ops Q n S f (u.setIfInBounds i true) (a.put J.dst v) w->wpAnyT P md ops Q n S (f+1) u a w:=by
 intro f
 induction f with
 | zero=>
  intro u a w _ F Y hS _ _ H
  refine⟨fun h=>(by rw[h] at F; cases F),fun j I=>?_⟩
  by_cases e:j=i
  .subst e
   exact Y.wpOp hi trivial ⟨hS,H⟩
  .have:=ready_mono I e
   rw[H.1] at this
   cases this
 | succ f ih=>
  intro u a w a3 F Y hS hT hC H
  have a1:=(mem_ready.1 F).1
  refine⟨fun h=>(by rw[h] at F; cases F),fun j I=>?_⟩
  by_cases e:j=i
  .subst e
   exact Y.wpOp hi trivial ⟨hS,H⟩
  .obtain⟨a5,G,a0,a8⟩:=mem_ready.1 I
   have ad:∀ d∈G.after,Region.binds md d=true->d.on≠i:=fun d hd hb a9=>by
    have W:=a8 d hd hb
    rw[a9] at W
    rcases Nat.lt_or_ge i u.size with z | z
    .simp[z] at a1 W; rw[a1] at W; cases W
    .simp[Array.getElem?_eq_none z] at W
   refine wpOp_mono (fun a' w' h3=>?_) (wpOp_putIf a0 (a3 j G a0 e a5 ad) (fun cs b=>a7 i J cs b hi) (fun cs b=>a7 j G cs b a0) hQ Y (H.2 j (ready_mono I e)))
   obtain⟨ae,a2,H'⟩:=h3
   rw[Array.setIfInBounds_comm _ _ (Ne.symm e)] at H'
   refine⟨a2,ih _ a' w' (fun k ok hk aa a6 ac=>a3 k ok hk aa ?_ ac) (ready_mono F (Ne.symm e)) ae (fun a4=>a2 ?_) hT (hC.set I) H'⟩
   .by_cases hjk:j=k
    .subst hjk; exact a5
    .rw[getD_set_ne true hjk] at a6; exact a6
   .rcases Nat.lt_or_ge j n with z | z
    .exact z
    .have:=tailB_spec (hT a4) hC I z a4
     rw[unlisted a1] at this
     cases this
def takeB (md:Region.Mode) (ops:Array Oper) (listed:Array Bool) (i:Nat):Bool:=Region.noSelect ops && Region.free md ops listed i && (Region.ready md ops listed).contains i && closedB md ops listed
theorem rgS {id:Nat} {a:Act} {w:World} {l:List Oper} (n:Nat) (S:World->Prop) (z:P.follows .mixedOrders=true) (u:tailB .any l.toArray n=true)
  (h:tailB .any l.toArray n=true->wpAnyT P .any l.toArray Q n S l.toArray.size (Array.replicate l.toArray.size false) a w.drew):(Code.region id l.toArray true).wp P Q a w:=
 wp_region_any z ((h u).any _ _ _ _)
theorem rgL (i:Nat) {F:Oper} {f:Nat} {G:Array Bool} {a:Act} {w:World} (W:tailB md ops n=true) (hi:ops[i]? = some F) (z:takeB md ops G i=true) (Y:i < n)
  (I:∀ c a u w,Q (.panic c) (a.put F.dst u) w->Q (.panic c) a w) (J:S w) (hw:Region.wanted F (yielded ops a.tmps)=true)
  (h:∃ v,(∀ w',S w'->(execOp a.eval F).run P w'=.ok (.value v) w')/\wpAnyT P md ops Q n S f (G.setIfInBounds i true) (a.put F.dst v) w):wpAnyT P md ops Q n S (f+1) G a w:=by
 obtain⟨v,hv,h⟩:=h
 simp only[takeB,Bool.and_eq_true] at z
 exact wpAnyT.first hi (Region.noSelect_spec z.1.1.1) (fun c a w=>I c a v w) W Y f G a w (Region.free_spec hi z.1.1.2) (by simpa using z.1.2) (.inl ⟨hw,hv⟩) J (closedB_spec z.2) h
theorem rl (i:Nat) {z:Oper} {f:Nat} {F:Array Bool} {a:Act} {w:World} (I:tailB md ops n=true) (G:S w) (hw:Region.wanted z (yielded ops a.tmps)=true)
  (h:∃ v,(∀ w',S w'->(execOp a.eval z).run P w'=.ok (.value v) w')/\wpAnyT P md ops Q n S f (F.setIfInBounds i true) (a.put z.dst v) w) (hi:ops[i]? = some z:=by exact rfl) (hB:takeB md ops F i=true:=by kernel_rfl) (hin:i < n:=by decide)
  (hQ:∀ c a u w,Q (.panic c) (a.put z.dst u) w->Q (.panic c) a w:=by exact fun _ _ _ _ h=>h):wpAnyT P md ops Q n S (f+1) F a w:=rgL i I hi hB hin hQ G hw h
theorem rq (i:Nat) {z:Oper} {f:Nat} {F:Array Bool} {a:Act} {w:World} {v:Value} (I:tailB md ops n=true) (G:S w) (hw:Region.wanted z (yielded ops a.tmps)=true)
  (h:wpAnyT P md ops Q n S f (F.setIfInBounds i true) (a.put z.dst v) w) (hi:ops[i]? = some z:=by exact rfl) (hB:takeB md ops F i=true:=by kernel_rfl) (hin:i < n:=by decide)
  (hQ:∀ c a u w,Q (.panic c) (a.put z.dst u) w->Q (.panic c) a w:=by exact fun _ _ _ _ h=>h)
  (hv:∀ w',S w'->(execOp a.eval z).run P w'=.ok (.value v) w':=by (intro w' hw; go_simp; exact rfl)):wpAnyT P md ops Q n S (f+1) F a w:=rgL i I hi hB hin hQ G hw ⟨v,hv,h⟩
theorem rgP (i:Nat) {F:Oper} {f:Nat} {G:Array Bool} {a:Act} {w:World} (W:tailB md ops n=true) (hi:ops[i]? = some F) (z:takeB md ops G i=true)
  (I:∀ c a u w,Q (.panic c) (a.put F.dst u) w->Q (.panic c) a w) (J:i < n->S w) (hw:Region.wanted F (yielded ops a.tmps)=true)
  (h:∃ v,(∀ w',(execOp a.eval F).run P w'=.ok (.value v) w')/\wpAnyT P md ops Q n S f (G.setIfInBounds i true) (a.put F.dst v) w):wpAnyT P md ops Q n S (f+1) G a w:=by
 obtain⟨v,hv,h⟩:=h
 simp only[takeB,Bool.and_eq_true] at z
 exact wpAnyT.firstPure hi (Region.noSelect_spec z.1.1.1) (fun c a w=>I c a v w) f G a w (Region.free_spec hi z.1.1.2) (by simpa using z.1.2) (.inl ⟨hw,fun w' _=>hv w'⟩) J (fun _=>W) (closedB_spec z.2) h
theorem rgK (i:Nat) {G:Oper} {f:Nat} {F:Array Bool} {a:Act} {w:World} (W:tailB md ops n=true) (hi:ops[i]? = some G) (z:takeB md ops F i=true)
  (I:∀ c a u w,Q (.panic c) (a.put G.dst u) w->Q (.panic c) a w) (J:i < n->S w) (hw:Region.wanted G (yielded ops a.tmps)=false)
  (h:wpAnyT P md ops Q n S f (F.setIfInBounds i true) (a.put G.dst undef) w):wpAnyT P md ops Q n S (f+1) F a w:=by
 simp only[takeB,Bool.and_eq_true] at z
 exact wpAnyT.firstPure hi (Region.noSelect_spec z.1.1.1) (fun c a w=>I c a _ w) f F a w (Region.free_spec hi z.1.1.2) (by simpa using z.1.2) (.inr ⟨hw,rfl⟩) J (fun _=>W) (closedB_spec z.2) h
theorem rO (i:Nat) {F:Oper} {f:Nat} {z:Array Bool} {a:Act} {w:World} (hi:ops[i]? = some F) (u:Region.ready md ops z=[i]) (hw:Region.wanted F (yielded ops a.tmps)=true)
  (h:F.wp P a w (fun a' w'=>(i < n->S w')/\wpAnyT P md ops Q n S f (z.setIfInBounds i true) a' w') Q):wpAnyT P md ops Q n S (f+1) z a w:=by
 refine⟨fun I=>(by rw[I] at u; cases u),fun j G=>?_⟩
 rw[u] at G
 obtain rfl:j=i:=by simpa using G
 unfold wpOp
 simp only[hi,hw,if_true]
 exact .inl h
theorem rgD {f:Nat} {z:Array Bool} {a:Act} {w:World} (u:Region.ready md ops z=[]) (h:Q .normal a w):wpAnyT P md ops Q n S f z a w:=by
 cases f with
 | zero=>exact⟨u,h⟩
 | succ f=>exact⟨fun _=>h,by rw[u]; simp⟩
end
section
variable {α:Type} {enc:α->Value} {P:Program} {w:World}
end
def dstOf (ops:Array Oper) (i:Nat):Option Tmp:=(ops[i]?).bind (·.dst)
def clearB (ops:Array Oper) (is:List Nat) (s:Tmp):Bool:=is.all fun i=>dstOf ops i != some s
def apartB (ops:Array Oper):List Nat->Bool
 | []=>true
 | i :: l=>(match dstOf ops i with | some d=>clearB ops l d | none=>true) && apartB ops l
def puts (ops:Array Oper) (val:Nat->Value):List Nat->Act->Act
 | [],a=>a
 | i :: l,a=>puts ops val l (a.put (dstOf ops i) (val i))
section
variable {ops:Array Oper} {val:Nat->Value}
theorem put_size (a:Act) (d:Option Tmp) (v:Value):(a.put d v).tmps.size=a.tmps.size:=by cases d <;> simp[Act.put]
theorem put_defers (a:Act) (d:Option Tmp) (v:Value):(a.put d v).defers=a.defers:=by cases d <;> rfl
theorem put_at_ne (a:Act) (d:Option Tmp) (v:Value) (s:Tmp) (h:d≠some s):(a.put d v).tmps[s]? = a.tmps[s]?:=by
 cases d with
 | none=>rfl
 | some d=>simp[Act.put,Array.getElem?_setIfInBounds]; intro e; exact absurd (congrArg some e) h
theorem put_at_eq (a:Act) (d:Tmp) (v:Value) (h:d < a.tmps.size):(a.put (some d) v).tmps[d]? = some v:=by
 simp[Act.put,h]
theorem puts_defers:∀ (h:List Nat) (a:Act),(puts ops val h a).defers=a.defers
 | [],_=>rfl
 | i :: l,a=>by rw[puts,puts_defers l,put_defers]
theorem puts_clear:∀ (u:List Nat) (a:Act) (s:Tmp),clearB ops u s=true->(puts ops val u a).tmps[s]? = a.tmps[s]?
 | [],_,_,_=>rfl
 | i :: l,a,s,h=>by
  simp only[clearB,List.all_cons,Bool.and_eq_true] at h
  rw[puts,puts_clear l _ s h.2,put_at_ne _ _ _ _ (by simpa using h.1)]
theorem puts_at:∀ (u:List Nat) (a:Act) (i:Nat) (d:Tmp),apartB ops u=true->i∈u->dstOf ops i=some d->d < a.tmps.size->(puts ops val u a).tmps[d]? = some (val i)
 | [],_,_,_,_,h,_,_=>by cases h
 | j :: l,a,i,d,hA,h,hd,hs=>by
  simp only[apartB,Bool.and_eq_true] at hA
  rw[puts]
  by_cases e:i∈l
  .exact puts_at l _ i d hA.2 e hd (by rw[put_size]; exact hs)
  .obtain rfl:i=j:=by rcases List.mem_cons.1 h with h | h; exact h; exact absurd h e
   have z:=hA.1
   rw[hd] at z
   rw[puts_clear l _ d z,hd,put_at_eq a d _ hs]
theorem not_clear {u:List Nat} {s:Tmp} (h:clearB ops u s≠true):∃ i∈u,dstOf ops i=some s:=by
 unfold clearB at h
 apply Classical.byContradiction
 intro hc
 apply h
 refine List.all_eq_true.2 fun i hi=>?_
 simp only[bne_iff_ne,ne_eq]
 exact fun e=>hc ⟨i,hi,e⟩
end
def Each (p:Nat->Prop):List Nat->Prop
 | []=>True
 | i :: l=>p i/\Each p l
theorem Each.of {p:Nat->Prop} : ∀ {l:List Nat},Each p l -> ∀ i∈l,p i
 | [],_,_,h=>by cases h
 | j :: l,h,i,hi=>by
  rcases List.mem_cons.1 hi with rfl | hi
  .exact h.1
  .exact Each.of h.2 i hi
theorem Each.mk {p:Nat->Prop} : ∀ {l:List Nat},(∀ i∈l,p i)->Each p l
 | [],_=>trivial
 | j :: l,h=>⟨h j (by simp),Each.mk fun i hi=>h i (by simp[hi])⟩
def backB (ops:Array Oper):Bool:=(List.range ops.size).all fun j=>match ops[j]? with
 | some oj=>oj.after.all fun e=>decide (e.on < j)
 | none=>true
def leftB (ops:Array Oper) (listed:Array Bool) (is:List Nat) (f:Nat):Bool:=
 (List.range ops.size).all (fun j=>listed.getD j true || is.contains j) && is.all (fun j=>decide (j < ops.size) && !listed.getD j true) && decide is.Nodup && decide (is.length=f) && decide (listed.size=ops.size)
def guardsB (ops:Array Oper) (is:List Nat):Bool:=is.all fun i=>match ops[i]? with
 | some o=>match o.guard with
  | some (g,_)=>(match dstOf ops g with | some d=>clearB ops is d | none=>true)
  | none=>true
 | none=>true
section
variable {P:Program} {ops:Array Oper} {Q:Exit->Act->World->Prop} {md:Region.Mode} {S:World->Prop} {n:Nat}
theorem wanted_same {o:Oper} {a b:Act} (h:match o.guard with | some (g,_)=>(match dstOf ops g with | some d=>a.tmps[d]? = b.tmps[d]? | none=>True) | none=>True) :
  Region.wanted o (yielded ops a.tmps)=Region.wanted o (yielded ops b.tmps):=by
 unfold Region.wanted
 cases hg:o.guard with
 | none=>rfl
 | some g=>
  obtain⟨g,p⟩:=g
  rw[hg] at h
  have:yielded ops a.tmps g=yielded ops b.tmps g:=by
   unfold yielded
   unfold dstOf at h
   cases hd:(ops[g]?).bind (·.dst) with
   | none=>rfl
   | some d=>
    simp only[hd] at h
    simp only[Option.bind_some]
    rw[show a.tmps[d]? = b.tmps[d]? from h]
  simp only[this]
theorem reg_stable (u:List Nat) (R:World->World->Prop) (T:Nat->Value->World->Prop) {f:Nat} {G:Array Bool} {a:Act} {w:World}
  (hB:leftB ops G u f=true) (hb:backB ops=true) (hA:apartB ops u=true) (hG:guardsB ops u=true) (hC:closedB md ops G=true)
  (aq:u.all (fun i=>match dstOf ops i with | some d=>decide (d < a.tmps.size) | none=>true)=true)
  (hw:u.all (fun i=>match ops[i]? with | some o=>Region.wanted o (yielded ops a.tmps) | none=>true)=true)
  (au:∀ w,R w w) (al:∀ w w' a2,R w w'->R w' a2->R w a2) (hT:∀ i v w w',T i v w->R w w'->T i v w') (hS:∀ w',R w w'->S w')
  (aG:Each (fun i=>∀ (a':Act) (w':World) (val:Nat->Value),R w w'->(∀ s,clearB ops u s=true->a'.tmps[s]?.getD undef=a.tmps[s]?.getD undef) ->
   (∀ j,u.contains j=true->waitsF md ops ops.size i j=true->T j (val j) w' /\ ∀ d,dstOf ops j=some d->a'.tmps[d]?.getD undef=val j) ->
   ∃ o,ops[i]? = some o/\o.wp P a' w' (fun ak a2=>∃ v,ak=a'.put o.dst v/\T i v a2/\R w' a2) Q) u)
  (aA:∀ (val:Nat->Value) (w':World),Each (fun i=>T i (val i) w') u->R w w'->Q .normal (puts ops val u a) w') :
  wpAnyT P md ops Q n S f G a w:=by
 simp only[leftB,Bool.and_eq_true,List.all_eq_true,Bool.or_eq_true,decide_eq_true_eq] at hB
 obtain⟨⟨⟨⟨ar,ae⟩,aE⟩,aC⟩,ac⟩:=hB
 have ax:∀ (j:Nat) (oj:Oper),ops[j]? = some oj -> ∀ e∈oj.after,e.on < j:=by
  intro j oj z e he
  have F:=List.all_eq_true.1 hb j (List.mem_range.2 (Array.getElem?_eq_some_iff.1 z).1)
  simp only[z] at F
  simpa using Array.all_eq_true_iff_forall_mem.1 F e he
 suffices main:∀ (f:Nat) (L:List Nat) (G:Array Bool) (a':Act) (w':World) (val:Nat->Value),
   L.Nodup->L.length=f->G.size=ops.size->(∀ j,j∈L->j∈u)->(∀ j,j < ops.size->(G.getD j true=false↔j∈L))->Closed md ops G ->
   a'.tmps.size=a.tmps.size->a'.defers=a.defers->(∀ s,clearB ops u s=true->a'.tmps[s]? = a.tmps[s]?) ->
   (∀ j,j∈u->j ∉ L->T j (val j) w' /\ ∀ d,dstOf ops j=some d->a'.tmps[d]? = some (val j))->R w w'->wpAnyT P md ops Q n S f G a' w' by
  refine main f u G a w (fun _=>undef) aE aC ac (fun _ h=>h) (fun j z=>⟨fun h=>?_,fun h=>?_⟩) (closedB_spec hC) rfl rfl (fun _ _=>rfl) (fun j F J=>absurd F J) (au w)
  .rcases ar j (List.mem_range.2 z) with F | F
   .rw[h] at F; cases F
   .simpa using F
  .have:=(ae j h).2
   simpa using this
 intro f
 induction f with
 | zero=>
  intro L G a' w' val ag af ac a7 Y hC hs hd a4 hv a3
  obtain rfl:=List.eq_nil_of_length_eq_zero af
  refine⟨?_,?_⟩
  .rw[List.eq_nil_iff_forall_not_mem]
   intro j z
   obtain⟨F,oj,ad,_⟩:=mem_ready.1 z
   have:=(Y j (Array.getElem?_eq_some_iff.1 ad).1).1 F
   cases this
  .have e:a'=puts ops val u a:=by
    have e1:a'.tmps=(puts ops val u a).tmps:=by
     apply Array.ext_getElem?
     intro s
     by_cases I:clearB ops u s=true
     .rw[a4 s I,puts_clear u a s I]
     .obtain⟨i,hi,ai⟩:=not_clear I
      have a6:s < a.tmps.size:=by
       have:=List.all_eq_true.1 aq i hi
       rw[ai] at this
       simpa using this
      rw[(hv i hi (by simp)).2 s ai,puts_at u a i s hA hi ai a6]
    have e2:a'.defers=(puts ops val u a).defers:=by rw[hd,puts_defers]
    cases a'
    cases hp:puts ops val u a
    rw[hp] at e1 e2
    simp only at e1 e2
    rw[e1,e2]
   rw[e]
   exact aA val w' (Each.mk fun i hi=>(hv i hi (by simp)).1) a3
 | succ f ih=>
  intro L G a' w' val ag af ac a7 Y hC hs hd a4 hv a3
  have aD:∀ j,j < ops.size->j ∉ L->G.getD j false=true:=by
   intro j z hn
   have F:G.getD j true≠false:=fun e=>hn ((Y j z).1 e)
   have J:j < G.size:=by omega
   simp[J] at F ⊢
   exact F
  refine⟨fun h0=>?_,fun i hi=>?_⟩
  .exfalso
   have aF:∀ j,j∈L->False:=by
    intro j
    induction j using Nat.strongRecOn with
    | _ j ihj=>
     intro z
     have aa:j < ops.size:=by
      have:=(ae j (a7 j z)).1
      exact this
     have ad:ops[j]? = some ops[j]:=Array.getElem?_eq_getElem aa
     have:j∈Region.ready md ops G:=by
      refine mem_ready.2 ⟨(Y j aa).2 z,ops[j],ad,fun e he aK=>?_⟩
      have a6:=ax j _ ad e he
      exact aD e.on (by omega) (fun hm=>ihj e.on a6 hm)
     rw[h0] at this
     cases this
   cases L with
   | nil=>simp at af
   | cons x l=>exact aF x (by simp)
  .obtain⟨F,oi,a0,az⟩:=mem_ready.1 hi
   have aB:i < ops.size:=(Array.getElem?_eq_some_iff.1 a0).1
   have an:=(Y i aB).1 F
   have a5:=a7 i an
   have aI:Region.wanted oi (yielded ops a'.tmps)=true:=by
    have J:=List.all_eq_true.1 hw i a5
    simp only[a0] at J
    rw[<- J]
    refine wanted_same ?_
    have W:=List.all_eq_true.1 hG i a5
    simp only[a0] at W
    cases hg:oi.guard with
    | none=>trivial
    | some g=>
     obtain⟨g,q⟩:=g
     rw[hg] at W
     simp only at W ⊢
     cases hdg:dstOf ops g with
     | none=>trivial
     | some d=>
      rw[hdg] at W
      exact a4 d W
   obtain⟨o,ho,aH⟩:=(Each.of aG) i a5 a' w' val a3 (fun s I=>by rw[a4 s I]) (fun j z aJ=>by
    have aj:j∈u:=by simpa using z
    have hl:=waitsF_listed hC _ i oi a0 az aJ
    have a9:j ∉ L:=by
     intro hm
     have aa:j < ops.size:=(ae j aj).1
     have:=(Y j aa).2 hm
     rw[unlisted this] at hl
     cases hl
    refine⟨(hv j aj a9).1,fun d ay=>?_⟩
    rw[(hv j aj a9).2 d ay]
    rfl)
   rw[a0] at ho
   injection ho with ho
   subst ho
   unfold wpOp
   simp only[a0,aI,if_true]
   refine .inl (Oper.wp_mono ?_ aH)
   rintro ak a2 ⟨v,rfl,av,ah⟩
   have a8:dstOf ops i=oi.dst:=by simp[dstOf,a0]
   refine⟨fun _=>hS _ (al _ _ _ a3 ah),ih (L.erase i) _ _ _ (fun j=>if j=i then v else val j) (ag.erase i) (by rw[List.length_erase_of_mem an]; omega) (by simpa using ac) (fun j z=>a7 j (List.mem_of_mem_erase z)) ?_ (hC.set hi) (by rw[put_size]; exact hs) (by rw[put_defers]; exact hd) ?_ ?_ (al _ _ _ a3 ah)⟩
   .intro j z
    by_cases e:j=i
    .subst e
     constructor
     .intro h
      have a6:j < G.size:=by omega
      simp[a6] at h
     .intro h; exact absurd h (List.Nodup.not_mem_erase ag)
    .rw[getD_set_ne true (Ne.symm e),Y j z,List.mem_erase_of_ne e]
   .intro s I
    rw[<- a4 s I]
    refine put_at_ne _ _ _ _ ?_
    have:=List.all_eq_true.1 I i a5
    rw[a8] at this
    simpa using this
   .intro j z a9
    by_cases e:j=i
    .subst e
     simp only[if_true]
     refine⟨av,fun d a1=>?_⟩
     rw[a8] at a1
     rw[a1]
     refine put_at_eq _ _ _ ?_
     have:=List.all_eq_true.1 aq j z
     rw[a8,a1] at this
     rw[hs]
     simpa using this
    .simp only[e,if_false]
     have ao:j ∉ L:=fun hm=>a9 ((List.mem_erase_of_ne e).2 hm)
     refine⟨hT _ _ _ _ (hv j z ao).1 ah,fun d a1=>?_⟩
     rw[<- (hv j z ao).2 d a1]
     refine put_at_ne _ _ _ _ ?_
     intro e2
     -- two of 'is' that write one slot
     have aw:∀ (u:List Nat),apartB ops u=true->i∈u->j∈u->dstOf ops i=some d->dstOf ops j=some d->i=j:=by
      intro u
      induction u with
      | nil=>intro _ h; cases h
      | cons x l ihl=>
       intro hA F J d1 d2
       simp only[apartB,Bool.and_eq_true] at hA
       have I:∀ k,k∈l->dstOf ops x=some d->dstOf ops k≠some d:=by
        intro k hk hx
        have W:=hA.1
        rw[hx] at W
        have:=List.all_eq_true.1 W k hk
        simpa using this
       rcases List.mem_cons.1 F with q1 | q1 <;> rcases List.mem_cons.1 J with q2 | q2
       .rw[q1,q2]
       .exact absurd d2 (I j q2 (q1 ▸ d1))
       .exact absurd d1 (I i q1 (q2 ▸ d2))
       .exact ihl hA.2 q1 q2 d1 d2
     exact e (aw u hA a5 z (by rw[a8]; exact e2) a1).symm
end
end Go.Proofs.YtoiklelghfckgaaGreatDoor.Rw
namespace Go.Proofs.YtoiklelghfckgaaGreatDoor.Rw
open Go Go.RowKit Go.ChangeShapes Go.WideShapes Go.ChangeAt
structure Rs {α:Type} (enc:α->List Value) (sz:Nat) (w:World) (B:Nat) (A:Option Addr) (n c:Nat) (xs:List α):Prop where
 len:xs.length=n
 cap:n<=c
 top:c<=9223372036854775807
 at_:0 < n -> ∃ b o,A=some ⟨b,o,none⟩/\b < B /\ ∀ j x,xs[j]? = some x -> ∀ i u,i < sz->(enc x)[i]? = some u->w.cell? ⟨b,o+j * sz+i,none⟩=some u
def flat {α:Type} (enc:α->List Value) (xs:List α):List Value:=xs.flatMap enc
section
variable {α:Type} {enc:α->List Value} {sz:Nat} {w w':World} {B B':Nat} {A:Option Addr} {n c:Nat} {xs:List α}
theorem flA (xs h:List α):flat enc (xs ++ h)=flat enc xs ++ flat enc h:=by unfold flat; exact List.flatMap_append
theorem flat_len (h:∀ x,(enc x).length=sz) (xs:List α):(flat enc xs).length=xs.length * sz:=by
 induction xs with
 | nil=>simp[flat]
 | cons x l ih=>
  show (enc x ++ flat enc l).length=_
  rw[List.length_append,h,ih,List.length_cons,Nat.add_mul]; omega
theorem flat_at (u:∀ x,(enc x).length=sz):∀ (xs:List α) (j:Nat) (x:α) (i:Nat),xs[j]? = some x->i < sz->(flat enc xs)[j * sz+i]? = (enc x)[i]?:=by
 intro xs
 induction xs with
 | nil=>intro j x i h; simp at h
 | cons y l ih=>
  intro j x i h hi
  show (enc y ++ flat enc l)[j * sz+i]? = _
  cases j with
  | zero=>
   simp at h; subst h
   rw[Nat.zero_mul,Nat.zero_add,List.getElem?_append_left (by rw[u]; exact hi)]
  | succ k=>
   rw[List.getElem?_append_right (by rw[u,Nat.add_mul]; omega),u]
   have e:(k+1) * sz+i - sz=k * sz+i:=by rw[Nat.add_mul]; omega
   rw[e]
   exact ih k x i (by simpa using h) hi
theorem Rs.nil_:Rs enc sz w B none 0 0 []:=⟨rfl,Nat.le_refl _,by omega,fun h=>absurd h (by omega)⟩
theorem Rs.keep (h:Rs enc sz w B A n c xs) (hk:∀ p:Addr,p.block < B->w'.cell? p=w.cell? p):Rs enc sz w' B A n c xs:=
 ⟨h.len,h.cap,h.top,fun hn=>by
  obtain⟨b,o,e,z,hc⟩:=h.at_ hn
  exact⟨b,o,e,z,fun j x hx i u hi F=>(hk ⟨b,o+j * sz+i,none⟩ z).trans (hc j x hx i u hi F)⟩⟩
theorem Rs.below (h:Rs enc sz w B A n c xs) (u:Below B w w'):Rs enc sz w' B A n c xs:=h.keep fun _ z=>u.cell z
theorem Rs.more (h:Rs enc sz w B A n c xs) (u:B<=B'):Rs enc sz w B' A n c xs:=
 ⟨h.len,h.cap,h.top,fun hn=>by
  obtain⟨b,o,e,z,hc⟩:=h.at_ hn
  exact⟨b,o,e,by omega,hc⟩⟩
theorem Rs.later (h:Rs enc sz w w.heap.size A n c xs) (u:Below w.heap.size w w'):Rs enc sz w' w'.heap.size A n c xs:=(h.below u).more u.size
theorem Rs.alloc (h:Rs enc sz w B A n c xs) (u:B<=w.heap.size) (o:Obj):Rs enc sz (w.alloc o) B A n c xs:=h.keep fun p z=>World.cell?_alloc_lt w o p (by omega)
theorem Rs.grown (h:Rs enc sz w B A n c xs) {row:Option Nat} (u:w.grownBy w' row) (F:B<=w.heap.size) (z:∀ g,row=some g->B<=g):Rs enc sz w' B A n c xs:=
 h.keep fun p G=>World.cell?_of_block (u.block p.block (by omega) (fun e=>by have:=z _ e.symm; omega))
theorem Rs.get (h:Rs enc sz w B A n c xs) {k:Nat} (hk:k < n):∃ b o x,A=some ⟨b,o,none⟩/\b < B/\xs[k]? = some x /\ ∀ i u,i < sz->(enc x)[i]? = some u->w.cell? ⟨b,o+k * sz+i,none⟩=some u:=by
 obtain⟨b,o,e,F,hc⟩:=h.at_ (by omega)
 have z:k < xs.length:=by have:=h.len; omega
 exact⟨b,o,xs[k],e,F,List.getElem?_eq_getElem z,hc k _ (List.getElem?_eq_getElem z)⟩
theorem Rs.front (h:Rs enc sz w B A n c xs) {i:Nat} (hi:i<=n):Rs enc sz w B A i c (xs.take i):=
 ⟨by rw[List.length_take,h.len]; omega,by have:=h.cap; omega,h.top,fun hn=>by
  obtain⟨b,o,e,u,hc⟩:=h.at_ (by omega)
  exact⟨b,o,e,u,fun j x hx=>hc j x (by rw[List.getElem?_take] at hx; split at hx <;> simp_all)⟩⟩
theorem Rs.back (h:Rs enc sz w B A n c xs) {i b o:Nat} (hi:i<=n) (hA:A=some ⟨b,o,none⟩) {A':Option Addr} (z:i < n->A'=some ⟨b,o+i * sz,none⟩):Rs enc sz w B A' (n - i) (c - i) (xs.drop i):=
 ⟨by rw[List.length_drop,h.len],by have:=h.cap; omega,by have:=h.top; omega,fun hn=>by
  obtain⟨b',I,e,F,hc⟩:=h.at_ (by omega)
  rw[hA] at e
  injection e with e
  injection e with e1 e2
  subst e1 e2
  refine⟨b,o+i * sz,z (by omega),F,fun j x hx q u hq G=>?_⟩
  have:=hc (i+j) x (by rw[List.getElem?_drop] at hx; exact hx) q u hq G
  rw[Nat.add_mul] at this
  rw[show o+i * sz+j * sz+q=o+(i * sz+j * sz)+q by omega]
  exact this⟩
theorem Rs.own_rs (I:∀ x,(enc x).length=sz) {base:Nat} {e:TypeId} (hn:xs.length=n) (h:w.ownsRow base e sz (.slice A n c) n (flat enc xs)):Rs enc sz w w.heap.size A n c xs:=by
 have J:=h.lt
 rcases h.2 with ⟨z,G⟩ | ⟨g,cap,a0,hs,a1,hg,Y,F,a2,a3⟩
 .subst G
  injection z with z _ h2
  subst z h2
  obtain rfl:=List.eq_nil_of_length_eq_zero hn
  exact Rs.nil_
 .unfold maxLen at F
  injection hs with hA _ hc
  subst hA hc
  refine⟨hn,Y,F,fun _=>⟨g,0,rfl,(J g rfl).2,fun j x hx i u hi hu=>?_⟩⟩
  have hj:j < n:=by have:=(List.getElem?_eq_some_iff.1 hx).1; omega
  have W:j * sz+i < n * sz:=by
   have:(j+1) * sz<=n * sz:=Nat.mul_le_mul_right sz (by omega)
   rw[Nat.add_mul] at this; omega
  rw[Nat.zero_add,h.cellAt (j * sz+i) W,flat_at I xs j x i hx hi]
  exact hu
theorem rs_one (F:∀ x,(enc x).length=sz) (w:World) (y:α) (t:TypeId) {cs:Array Value} (h:cs.toList=enc y):Rs enc sz (w.alloc (.cells cs t)) (w.heap.size+1) (some ⟨w.heap.size,0,none⟩) 1 1 [y]:=by
 refine⟨rfl,Nat.le_refl _,by omega,fun _=>⟨w.heap.size,0,rfl,by omega,fun j x hx i u hi z=>?_⟩⟩
 cases j with
 | zero=>
  simp at hx; subst hx
  have:cs[i]? = some u:=by rw[<- Array.getElem?_toList,h]; exact z
  simp[this]
 | succ k=>simp at hx
end
section
variable {P:Program} {w:World} {α:Type} {enc:α->List Value} {sz:Nat}
theorem run_append_rs (he:∀ x,(enc x).length=sz) (base:Nat) (t ty e:TypeId) (i:TypeInfo) (z:Value) (a0:Nat) (ht:P.underlying t=some (.slice e)) (hi:P.info? e=some i) (hz:i.zero=some z)
  (af:i.size=sz) (a8:i.bytes=a0) (ag:z.cells.size=sz) (a2:0 < sz)
  (v:Value) (n:Nat) (xs:List Value) (a1:w.ownsRow base e sz v n xs)
  (B:Nat) (A:Option Addr) (m c:Nat) (F:List α) (J:Rs enc sz w B A m c F) (h1:∀ y,∀ u∈enc y,u.oneCell'=true)
  (a6:n+m<=maxLen) (a9:(n+m) * a0<=140737488355328) (a7:base<=w.heap.size) :
  ∃ I w',(Builtin.append_ #[t,t] ty #[v,.slice A m c]).run P w=.ok I w'/\w'.ownsRow base e sz I (n+m) (xs ++ flat enc F)/\w.grownBy w' v.ownBlock /\
   (I.ownBlock=v.ownBlock\/I.ownBlock=some w.heap.size):=by
 by_cases hA:A=none
 .subst hA
  have hm:m=0:=by
   rcases Nat.eq_zero_or_pos m with G | G
   .exact G
   .obtain⟨b,o,h,_⟩:=J.at_ G
    cases h
  subst hm
  obtain rfl:=List.eq_nil_of_length_eq_zero J.len
  refine⟨v,w,?_,by simpa [flat] using a1,World.grownBy.refl w _,.inl rfl⟩
  rcases a1.2 with ⟨rfl,rfl⟩ | ⟨g,cap,ah,rfl,_,_,ac,_⟩
  .simp[Builtin.append_,run_underlying ht,sizeOf,typeInfo,hi,Builtin.lenOf,Builtin.firstCells]
  .simp[Builtin.append_,run_underlying ht,sizeOf,typeInfo,hi,Builtin.lenOf,Builtin.firstCells,ac,storeCells]
 .obtain⟨ad,rfl⟩:=Option.ne_none_iff_exists'.1 hA
  have aa:∀ j u,(flat enc F)[j]? = some u->w.cell? (ad.add j)=some u:=by
   intro j u W
   have a4:j < F.length * sz:=by have:=(List.getElem?_eq_some_iff.1 W).1; rw[flat_len he] at this; exact this
   have ai:=J.len
   rcases Nat.eq_zero_or_pos m with G | G
   .have:F.length=0:=by omega
    rw[this] at a4; omega
   .obtain⟨b,o,h,_,hc⟩:=J.at_ G
    injection h with h
    subst h
    have hq:j / sz < F.length:=(Nat.div_lt_iff_lt_mul a2).2 a4
    have a5:j % sz < sz:=Nat.mod_lt _ a2
    have a3:j / sz * sz+j % sz=j:=by rw[Nat.mul_comm]; exact Nat.div_add_mod j sz
    have Y:=List.getElem?_eq_getElem hq
    have hf:=flat_at he F (j / sz) _ (j % sz) Y a5
    rw[a3,W] at hf
    have:=hc (j / sz) _ Y (j % sz) u a5 hf.symm
    rw[Lw.add_eq rfl]
    rw[Nat.add_assoc,a3] at this
    exact this
  obtain⟨I,w',ae,h2,h3,_,h5⟩:=run_append_own_at (P:=P) w base t ty e i z sz a0 ht hi hz af a8 ag a2 v n xs a1 ad m c (flat enc F) (by rw[flat_len he,J.len]) aa
   (fun u W=>by obtain⟨y,_,Y⟩:=List.mem_flatMap.1 W; exact h1 y u Y) a6 a9 a7
  exact⟨I,w',ae,h2,h3,h5⟩
theorem apRs (he:∀ x,(enc x).length=sz) {ops:Array Oper} {rest:List Oper} {o:Oper} {a:Act} {Q:Exit->Act->World->Prop} (a4:o.guard=none) (s x:Operand) (t:TypeId)
  (ho:o.op=.call { callee:=.builtin .append,args:=#[s,x],argTypes:=#[t,t] })
  (base:Nat) (e:TypeId) (i:TypeInfo) (z:Value) (G:Nat) (ht:P.underlying t=some (.slice e)) (hi:P.info? e=some i) (hz:i.zero=some z)
  (a7:i.size=sz) (a2:i.bytes=G) (a9:z.cells.size=sz) (a8:0 < sz)
  (v:Value) (n:Nat) (xs:List Value) (hs:a.eval s=v) (a5:w.ownsRow base e sz v n xs)
  (B:Nat) (A:Option Addr) (m c:Nat) (I:List α) (hx:a.eval x=.slice A m c) (hr:Rs enc sz w B A m c I) (W:∀ y,∀ u∈enc y,u.oneCell'=true)
  (k:Nat) (hk:n+m=k) (zs:List Value) (aa:xs ++ flat enc I=zs) (a0:n+m<=maxLen) (a3:(n+m) * G<=140737488355328) (a1:base<=w.heap.size)
  (h:∀ A' F w',w'.ownsRow base e sz (.slice A' k F) k zs->w.grownBy w' v.ownBlock->((Value.slice A' k F).ownBlock=v.ownBlock\/(Value.slice A' k F).ownBlock=some w.heap.size)->wpList P ops Q rest (a.put o.dst (.slice A' k F)) w'):wpList P ops Q (o :: rest) a w:=by
 subst hk aa
 obtain⟨v',w',a6,J,Y,h4⟩:=run_append_rs (P:=P) he base t o.type e i z G ht hi hz a7 a2 a9 a8 v n xs a5 B A m c I hr W a0 a3 a1
 obtain⟨A',F,rfl⟩:=own_slice J
 exact Lib.wpList_append_run w a4 s x t t ho v _ hs hx _ w' a6 (h A' F w' J Y h4)
end
end Go.Proofs.YtoiklelghfckgaaGreatDoor.Rw
namespace Go.Proofs.YtoiklelghfckgaaGreatDoor.Hi
open Go.ChangeShapes Go.WideShapes Go.ChangeAt Go.RowKit Rw
structure Fr (a b:Option Nat) (w w':World):Prop where
 os:w'.os=w.os
 tape:w'.tape=w.tape
 output:w'.output=w.output
 size:w.heap.size<=w'.heap.size
 block:∀ k,k < w.heap.size->some k≠a->some k≠b->w'.heap[k]? = w.heap[k]?
theorem Fr.refl (a b:Option Nat) (w:World):Fr a b w w:=⟨rfl,rfl,rfl,Nat.le_refl _,fun _ _ _ _=>rfl⟩
theorem Fr.of_grown {a b row:Option Nat} {w w':World} (h:w.grownBy w' row) (F:row=none\/row=a\/row=b):Fr a b w w':=
 ⟨h.os,h.tape,h.output,h.size,fun k hk u z=>h.block k hk (fun e=>by
  rcases F with rfl | rfl | rfl
  .cases e
  .exact u e
  .exact z e)⟩
theorem Fr.then {a b a' b':Option Nat} {w w' G:World} (h:Fr a b w w') (u:Fr a' b' w' G) (ha:∀ k,a'=some k->k < w.heap.size->some k=a\/some k=b) (I:∀ k,b'=some k->k < w.heap.size->some k=a\/some k=b):Fr a b w G:=
 ⟨u.os.trans h.os,u.tape.trans h.tape,u.output.trans h.output,Nat.le_trans h.size u.size,fun k hk z F=>
  (u.block k (Nat.lt_of_lt_of_le hk h.size) (fun e=>(ha k e.symm hk).elim z F) (fun e=>(I k e.symm hk).elim z F)).trans (h.block k hk z F)⟩
theorem Fr.below {a b:Option Nat} {w w':World} {B:Nat} (h:Fr a b w w') (z:B<=w.heap.size) (ha:∀ k,a=some k->B<=k) (u:∀ k,b=some k->B<=k):Below B w w':=
 ⟨h.os,h.tape,h.output,h.size,fun k hk=>h.block k (by omega) (fun e=>by have:=ha k e.symm; omega) (fun e=>by have:=u k e.symm; omega)⟩
theorem Fr.cell {a b:Option Nat} {w w':World} (h:Fr a b w w') {p:Addr} (F:p.block < w.heap.size) (u:some p.block≠a) (z:some p.block≠b):w'.cell? p=w.cell? p:=by
 unfold World.cell?; rw[h.block _ F u z]
theorem owS {w w':World} {base:Nat} {e:TypeId} {sz:Nat} {v:Value} {n:Nat} {xs:List Value} (h:w.ownsRow base e sz v n xs) (J:∀ g,v.ownBlock=some g->w'.heap[g]? = w.heap[g]?):w'.ownsRow base e sz v n xs:=by
 refine⟨h.1,?_⟩
 rcases h.2 with u | ⟨g,cap,F,z,u,G,I⟩
 .exact .inl u
 .exact .inr ⟨g,cap,F,z,u,(J g (by rw[z]; rfl)).trans G,I⟩
theorem gsC (w:World) (a:Addr) (u:Value):w.grownBy (w.setCell a u) (some a.block):=
 ⟨rfl,rfl,rfl,by simp,fun k _ hk=>heap_setCell_other w a k u (fun e=>hk (by rw[e]))⟩
end Go.Proofs.YtoiklelghfckgaaGreatDoor.Hi
namespace Go.Proofs.YtoiklelghfckgaaGreatDoor.Sn
open Go.ChangeShapes Go.WideShapes Go.ChangeAt Go.RowKit Rw Sl
structure Snap (w:World) (B:Nat) (v:Value) (xs:List Int):Prop where
 rd:∃ A n c,v=.agg #[.slice A n c] /\ Rd (Value.int .u64) w B A n c xs
 nd:xs.Nodup
 ok:U64s xs
theorem Snap.later {w w':World} {v:Value} {xs:List Int} (h:Snap w w.heap.size v xs) (F:Below w.heap.size w w'):Snap w' w'.heap.size v xs:=by
 obtain⟨⟨A,n,c,e,r⟩,u,z⟩:=h
 exact⟨⟨A,n,c,e,r.later F⟩,u,z⟩
theorem wf_u64 {x:Int} (h:0<=x/\x<=18446744073709551615):(Lit.int .u64 x).wf=true:=WalkArith.wf_u64 (by omega)
theorem idx_any (v:Value) (xs:List Int) (x:Int) (w:World) (h:Snap w w.heap.size v xs) :
  Calls Tryz.prog 22 #[v,.int .u64 x] w fun e w'=>e=.returned (.int .i64 (sIdx xs x))/\Below w.heap.size w w':=by
 obtain⟨⟨A,n,c,rfl,r⟩,-,-⟩:=h
 have R:=Lh r
 clear r
 go_enter Tryz.func22,Tryz.ntmps22
 go_wp2_with fail
 refine (index_any A n c xs x w.heap.size _ (R.out.alloc (Nat.le_refl _) _)).mono ?_
 rintro e w' ⟨rfl,rfl⟩
 go_wp2_with fail
 go_ret
 exact⟨rfl,(Below.refl _ _).alloc (Nat.le_refl _) _⟩
theorem all_any (v:Value) (xs:List Int) (w:World) (h:Snap w w.heap.size v xs) (G:xs.length * 8<=140737488355328) :
  Calls Tryz.prog 207 #[v] w fun e w'=>∃ A' z,e=.returned (.slice A' xs.length z)/\w'.ownsRow w.heap.size 25 1 (.slice A' xs.length z) xs.length (xs.map (Value.int .u64))/\Below w.heap.size w w':=by
 obtain⟨⟨A,n,c,rfl,r⟩,-,-⟩:=h
 obtain rfl:=r.len
 have R:=Lh r
 clear r
 go_enter Tryz.func207,Tryz.ntmps207
 go_wp2_with fail
 refine (clone_any A _ c xs w.heap.size _ (R.out.alloc (Nat.le_refl _) _) (by simp) G).mono ?_
 rintro e w' ⟨u,J,rfl,I,F⟩
 go_wp2_with fail
 go_ret
 exact⟨u,J,rfl,own_mono I (by simp),((Below.refl _ _).alloc (Nat.le_refl _) _).trans (F.mono (by simp))⟩
theorem at_in (v:Value) (xs:List Int) (k:Nat) (x:Int) (B:Nat) (w:World) (h:Snap w B v xs) (G:B<=w.heap.size) (hk:xs[k]? = some x) :
  Calls Tryz.prog 192 #[v,.int .i64 k] w fun e w'=>e=.returned (.tuple #[.int .u64 x,.bool true])/\Below w.heap.size w w':=by
 obtain⟨⟨A,n,c,rfl,r⟩,-,-⟩:=h
 have F:=r.len
 have z:k < n:=by have:=(List.getElem?_eq_some_iff.1 hk).1; omega
 have hn:n<=9223372036854775807:=by have:=r.cap; have:=r.top; omega
 obtain⟨b,o,y,rfl,I,u,hc⟩:=r.get z
 rw[hk] at u
 injection u with u
 subst u
 clear r hk F
 have J:b < w.heap.size:=by omega
 go_enter Tryz.func192,Tryz.ntmps192
 go_wp2
 go_ret2
 exact⟨rfl,(Below.refl _ _).alloc (Nat.le_refl _) _⟩
theorem at_out (v:Value) (xs:List Int) (i:Int) (B:Nat) (w:World) (h:Snap w B v xs) (hi:i < 0\/xs.length<=i) :
  Calls Tryz.prog 192 #[v,.int .i64 i] w fun e w'=>e=.returned (.tuple #[.int .u64 0,.bool false])/\Below w.heap.size w w':=by
 obtain⟨⟨A,n,c,rfl,r⟩,-,-⟩:=h
 have u:=r.len
 rw[u] at hi
 clear r u
 by_cases h0:i < 0
 .clear hi
  go_enter Tryz.func192,Tryz.ntmps192
  go_wp2
  go_ret2
  exact⟨rfl,(Below.refl _ _).alloc (Nat.le_refl _) _⟩
 .have F:(n:Int)<=i:=by omega
  have z:0<=i:=by omega
  clear hi h0
  go_enter Tryz.func192,Tryz.ntmps192
  go_wp2
  go_ret2
  exact⟨rfl,(Below.refl _ _).alloc (Nat.le_refl _) _⟩
theorem zero_bool (w:World):(zeroValue 4).run Tryz.prog w=.ok (.bool false) w:=by kernel_rfl
theorem row_ne {w:World} {base:Nat} {e:TypeId} {v:Value} {n:Nat} {xs:List Value} (h:w.ownsRow base e 1 v n xs) {g:Nat} (u:g < base):some g≠v.ownBlock:=fun e=>by
 have:=(h.lt g e.symm).1; omega
theorem of_any (A:Option Addr) (n c:Nat) (xs:List Int) (w:World) (h:Rd (Value.int .u64) w w.heap.size A n c xs) (a8:U64s xs) (hl:n * 8+8<=140737488355328) :
  Calls Tryz.prog 404 #[.slice A n c] w fun e w'=>∃ u,e=.returned u/\Snap w' w'.heap.size u (sOf xs)/\Below w.heap.size w w':=by
 have ao:=@run_makeMap Tryz.prog
 obtain⟨i0,hi,ag,ah,ai⟩:=info_parts info_u64
 have hn:=h.len
 have R:=Lh h
 have HO:=Lh a8
 have HN:=Lh hn
 clear h a8 hn
 go_enter Tryz.func404,Tryz.ntmps404
 go_wp2
 go_loopw [3,10] (fun v i wr=>∃ (k I:Nat) (A':Option Addr) (z:List Int),k<=n/\i=.int .i64 k/\v=.slice A' z.length I/\Hid (z=sOf (xs.take k))/\z.length<=k /\
   wr.ownsRow (w.heap.size+2) 25 1 (.slice A' z.length I) z.length (z.map (Value.int .u64))/\wr.ownsMap Tryz.prog 25 (plainElem Tryz.prog 4) (w.heap.size+1) k (Mp.setD .u64 z) /\
   wr.cell? ⟨w.heap.size,0,none⟩=some (.slice none 0 0)/\wr.frozen? ⟨w.heap.size,0,none⟩=false/\Below w.heap.size w wr/\w.heap.size+2<=wr.heap.size) (fun _ i _=>n - (intOf i).toNat)
 case atStart=>
  refine⟨0,0,none,[],Nat.zero_le _,rfl,rfl,rfl,Nat.zero_le _,World.ownsRow_nil _ _ _ _,?_,by go_simp,by go_simp,((Below.refl _ _).alloc (Nat.le_refl _) _).alloc (by simp) _,by simp⟩
  have:=World.ownsMap_made (H:=Unit) (w.alloc (.cells #[.slice none 0 0] 63)) Tryz.prog 25 (plainElem Tryz.prog 4)
  simpa [Mp.setD_nil] using this
 case round=>
  obtain⟨k,I,A',z,hk,rfl,rfl,a0,ak,F,a2,a3,a6,a1,af⟩:=hrel
  by_cases hlt:k < n
  .obtain⟨b,o,x,rfl,hb,hx,a5⟩:=R.out.get hlt
   have an:wr.cell? ⟨b,o+k,none⟩=some (.int .u64 x):=(a1.cell (p:=⟨b,o+k,none⟩) hb).trans a5
   have a4:=wf_u64 (HO.out.get hx)
   have HX:=Lh hx
   clear hx a5
   by_cases hm:x∈z
   .have G:sOf (xs.take (k+1))=z:=by rw[sOf_take HX.out,<- a0.out,sWith,if_pos hm]
    have W:=Lh G
    clear G
    go_wp2_with (at_lookup; refine Mp.lookup_set _ rfl _ _ 126 rfl 25 4 .u64 Tryz.underlying25 Tryz.underlying126 Tryz.underlying4 (zero_bool _) (w.heap.size+1) k z rfl a2 x rfl a4 ?_)
    go_roundw
    case rel=>exact⟨k+1,I,A',z,by omega,by go_num,rfl,W.out.symm,by omega,F,a2.mono (by omega),a3,a6,a1,af⟩
    case measure=>simp[intOf]; omega
   .have G:sOf (xs.take (k+1))=z ++ [x]:=by rw[sOf_take HX.out,<- a0.out,sWith,if_neg hm]
    have W:=Lh G
    clear G
    go_wp2_with (first
     | (at_lookup; refine Mp.lookup_set _ rfl _ _ 126 rfl 25 4 .u64 Tryz.underlying25 Tryz.underlying126 Tryz.underlying4 (zero_bool _) (w.heap.size+1) k z rfl a2 x rfl a4 ?_)
     | (at_mapUpdate; refine Mp.update_set _ rfl _ _ _ 126 rfl 25 4 .u64 Tryz.underlying25 Tryz.underlying126 Tryz.underlying4 (w.heap.size+1) k z rfl a2 (by unfold maxLen; omega) x rfl rfl a4 ?_; intro w1 ac J)
     | (at_builtin; refine apRd _ rfl _ _ 30 rfl (w.heap.size+2) 25 i0 (.int .u64 0) 8 Tryz.underlying30 hi ag ah ai rfl _ z.length _ rfl ((F.kept J (Or.inr (row_ne F (Nat.lt_succ_self _)).symm)).alloc _) _ _ 1 1 [x] rfl (rd_one (enc:=Value.int .u64) w1 x _) one_u64 (z.length+1) rfl ((z ++ [x]).map (Value.int .u64)) List.map_append.symm (by unfold maxLen; omega) (by omega) (by have:=J.size; simp; omega) ?_; intro v3 aj w3 ad Y al))
    have s1:=J.size
    have s3:=Y.size
    simp at s3
    have aq:=F.kept J (Or.inr (row_ne F (Nat.lt_succ_self _)).symm)
    have a7:some w.heap.size≠(Value.slice A' z.length I).ownBlock:=row_ne F (by omega)
    have a9:=J.cell a3 (by simp)
    have aa:=gfz J a6 (by show w.heap.size < _; omega) (by simp)
    go_roundw
    case rel=>
     refine⟨k+1,aj,v3,z ++ [x],by omega,by go_num,by simp,W.out.symm,by simp; omega,by simpa using ad,?_,?_,?_,?_,by omega⟩
     .exact (ac.alloc _).kept Y (row_ne F (by omega))
     .exact Y.cell (alC a9 _) a7
     .exact gfz Y (alloc_frozen aa (by show w.heap.size < _; omega) _) (by show w.heap.size < _; simp; omega) a7
     .exact ((a1.grown J (by omega) (fun j hj=>by cases hj; omega)).alloc (by omega) _).grown Y (by simp; omega) (fun j hj=>by have:=(F.lt j hj).1; omega)
    case measure=>simp[intOf]; omega
  .have G:z=sOf xs:=by rw[a0.out,List.take_of_length_le (by have:=HN.out; omega)]
   clear a0
   have W:=Lh G
   clear G
   go_wp2
   have ae:=ownsRow_setCell_below F (a:=⟨w.heap.size,0,none⟩) (by show w.heap.size < _; omega) (.slice A' z.length I)
   exact bodyPost_ret (v:=.agg #[.slice A' z.length I]) (by simp[results,Tryz.results404,go_sem,a3]) rfl ⟨_,rfl,⟨⟨_,_,_,rfl,by rw[<- W.out]; exact Rd.own_rd ae⟩,nodup_sOf xs,HO.out.of⟩,a1.setCell (p:=⟨w.heap.size,0,none⟩) (Nat.le_refl _) _⟩
end Go.Proofs.YtoiklelghfckgaaGreatDoor.Sn
namespace Go.Proofs.YtoiklelghfckgaaGreatDoor.Ck
open Go.ChangeShapes Go.WideShapes Go.ChangeAt Go.RowKit Rw Sl Sn
def cAdd (a b:Int):Int:=if a+b<=1152921504606846976 then a+b else 1152921504606846976
theorem cAdd_lo (a b:Int) (ha:0<=a) (h:0<=b):0<=cAdd a b:=by unfold cAdd; split <;> omega
theorem cAdd_hi (a b:Int):cAdd a b<=1152921504606846976:=by unfold cAdd; split <;> omega
theorem cAdd_u (a b:Int):cAdd a b<=18446744073709551615:=by have:=cAdd_hi a b; omega
theorem add_any (a b:Int) (w:World) (u:0<=a) (z:a<=18446744073709551615) (F:0<=b) (b1:b<=18446744073709551615) :
  Calls Tryz.prog 150 #[.int .u64 a,.int .u64 b] w fun e w'=>e=.returned (.int .u64 (cAdd a b))/\w=w':=by
 by_cases h1:1152921504606846976<=a
 .have h:cAdd a b=1152921504606846976:=by unfold cAdd; split <;> omega
  rw[h]
  clear h
  go_enter Tryz.func150,Tryz.ntmps150
  go_wp2
  try any_goals (exfalso; omega)
  go_ret
  exact⟨rfl,rfl⟩
 .have G:a < 1152921504606846976:=by omega
  clear h1
  by_cases h2:1152921504606846976 - a<=b
  .have h:cAdd a b=1152921504606846976:=by unfold cAdd; split <;> omega
   rw[h]
   clear h
   go_enter Tryz.func150,Tryz.ntmps150
   go_wp2
   try any_goals (exfalso; omega)
   go_ret
   exact⟨rfl,rfl⟩
  .have I:b < 1152921504606846976 - a:=by omega
   have h:cAdd a b=a+b:=by unfold cAdd; split <;> omega
   rw[h]
   clear h h2
   go_enter Tryz.func150,Tryz.ntmps150
   go_wp2
   try any_goals (exfalso; omega)
   go_ret
   exact⟨rfl,rfl⟩
theorem radd_any (a b:Int) (w:World) (u:0<=a) (z:a<=18446744073709551615) (F:0<=b) (b1:b<=18446744073709551615) :
  Calls Tryz.prog 127 #[.int .u64 a,.int .u64 b] w fun e w'=>e=.returned (.int .u64 (cAdd a b))/\w=w':=by
 by_cases h1:1152921504606846976 < a
 .have h:cAdd a b=1152921504606846976:=by unfold cAdd; split <;> omega
  rw[h]
  clear h
  go_enter Tryz.func127,Tryz.ntmps127
  go_wp2
  try any_goals (exfalso; omega)
  all_goals first | omega | (go_ret; exact⟨rfl,rfl⟩)
 .have G:a<=1152921504606846976:=by omega
  clear h1
  by_cases h2:1152921504606846976 < b
  .have h:cAdd a b=1152921504606846976:=by unfold cAdd; split <;> omega
   rw[h]
   clear h
   go_enter Tryz.func127,Tryz.ntmps127
   go_wp2
   try any_goals (exfalso; omega)
   all_goals first | omega | (go_ret; exact⟨rfl,rfl⟩)
  .have I:b<=1152921504606846976:=by omega
   clear h2
   by_cases h3:1152921504606846976 < a+b
   .have h:cAdd a b=1152921504606846976:=by unfold cAdd; split <;> omega
    rw[h]
    clear h
    go_enter Tryz.func127,Tryz.ntmps127
    go_wp2
    try any_goals (exfalso; omega)
    all_goals first | omega | (go_ret; exact⟨rfl,rfl⟩)
   .have h:cAdd a b=a+b:=by unfold cAdd; split <;> omega
    have J:a+b<=1152921504606846976:=by omega
    rw[h]
    clear h h3
    go_enter Tryz.func127,Tryz.ntmps127
    go_wp2
    try any_goals (exfalso; omega)
    all_goals first | omega | (go_ret; exact⟨rfl,rfl⟩)
abbrev ck (t:Int):Value:=.agg #[.int .u64 t]
abbrev bx (t:Int):Obj:=.cells #[.int .u64 t] 52
theorem now_any (t:Int) (w:World):Calls Tryz.prog 131 #[ck t] w fun e w'=>e=.returned (.int .u64 t)/\w.alloc (bx t)=w':=by
 go_enter Tryz.func131,Tryz.ntmps131
 go_wp2
 go_ret
 exact⟨rfl,rfl⟩
theorem reached_any (t x:Int) (w:World):Calls Tryz.prog 159 #[ck t,.int .u64 x] w fun e w'=>e=.returned (.bool (decide (x<=t)))/\w.alloc (bx t)=w':=by
 go_enter Tryz.func159,Tryz.ntmps159
 go_wp2
 go_ret
 exact⟨rfl,rfl⟩
theorem after_any (t n:Int) (w:World) (h:0<=t) (u:t<=18446744073709551615) (z:0<=n) (b1:n<=18446744073709551615) :
  Calls Tryz.prog 88 #[ck t,.int .u64 n] w fun e w'=>e=.returned (.int .u64 (cAdd t n))/\w.alloc (bx t)=w':=by
 go_enter Tryz.func88,Tryz.ntmps88
 go_wp2_with fail
 refine (add_any _ _ _ h u z b1).mono ?_
 rintro e w' ⟨rfl,rfl⟩
 go_wp2_with fail
 go_ret
 exact⟨rfl,rfl⟩
theorem at_any (t:Int) (w:World) (z:0<=t) (F:t<=18446744073709551615) :
  Calls Tryz.prog 56 #[.int .u64 t] w fun e w'=>e=.returned (ck (cAdd t 0))/\w.alloc (bx (cAdd t 0))=w':=by
 by_cases h:t<=1152921504606846976
 .have u:cAdd t 0=t:=by unfold cAdd; split <;> omega
  rw[u]
  clear u
  go_enter Tryz.func56,Tryz.ntmps56
  go_wp2
  exact bodyPost_ret (v:=ck t) (by simp[results,Tryz.results56,go_sem]) rfl ⟨rfl,rfl⟩
 .have u:cAdd t 0=1152921504606846976:=by unfold cAdd; split <;> omega
  have G:1152921504606846976 < t:=by omega
  rw[u]
  clear u h
  go_enter Tryz.func56,Tryz.ntmps56
  go_wp2
  exact bodyPost_ret (v:=ck 1152921504606846976) (by simp[results,Tryz.results56,go_sem]) rfl ⟨rfl,rfl⟩
theorem tick_any (t n:Int) (w:World) (h:0<=t) (u:t<=18446744073709551615) (z:0<=n) (b1:n<=18446744073709551615) :
  Calls Tryz.prog 39 #[ck t,.int .u64 n] w fun e w'=>e=.returned (ck (cAdd t n))/\((w.alloc (bx t)).alloc (bx (cAdd t n))).alloc (bx t)=w':=by
 go_enter Tryz.func39,Tryz.ntmps39
 go_wp2_with fail
 refine (after_any _ _ _ h u z b1).mono ?_
 rintro e w' ⟨rfl,rfl⟩
 go_wp2_with fail
 exact bodyPost_ret (v:=ck (cAdd t n)) (by simp[results,Tryz.results39,go_sem]) rfl ⟨rfl,by simp⟩
theorem Awake2_any (w:World) :
  Calls Tryz.prog 403 #[] w fun e w'=>e=.returned (.bool true)/\Below w.heap.size w w':=by
 go_enter Tryz.func403,Tryz.ntmps403
 go_wp2_with fail
 refine (Wd.awake2_any _).mono ?_
 rintro e w' ⟨rfl,rfl⟩
 go_wp2_with fail
 go_ret
 exact⟨rfl,(Below.refl _ _).alloc (Nat.le_refl _) _⟩
theorem rd_lit {w:World} {xs:List Int} {n:Nat} (hn:xs.length=n) (h:n<=9223372036854775807) (t:TypeId) {cs:Array Value} (hc:cs=(xs.map (Value.int .u64)).toArray):Rd (Value.int .u64) (w.alloc (.cells cs t)) (w.heap.size+1) (some ⟨w.heap.size,0,none⟩) n n xs:=by
 subst hc
 refine⟨hn,Nat.le_refl _,h,fun _=>⟨w.heap.size,0,rfl,by omega,fun j x hx=>?_⟩⟩
 simp[hx]
theorem awake3_any (w:World) :
  Calls Tryz.prog 402 #[] w fun e w'=>e=.returned (.bool true)/\Below w.heap.size w w':=by
 go_enter Tryz.func402,Tryz.ntmps402
 go_wp2_with fail
 refine (Awake2_any _).mono ?_
 rintro e w1 ⟨rfl,h⟩
 go_wp2_with fail
 refine (of_any _ 3 3 [1,2,1] _ ((rd_lit (xs:=[1,2,1]) rfl (by simp) _ rfl).more (by simp)) (by unfold U64s; decide) (by omega)).mono ?_
 rintro e w2 ⟨u,rfl,I,F⟩
 have z:sOf [1,2,1] = [1,2]:=by decide
 rw[z] at I
 clear z
 go_wp2_with fail
 refine (all_any _ _ _ I (by decide)).mono ?_
 rintro e w3 ⟨A3,c3,rfl,J,G⟩
 go_wp2_with fail
 refine (equal_any _ _ _ _ _ _ [1,2] [1,2] _ _ _ ((Rd.own_rd J).alloc (Nat.le_refl _) _) (rd_lit (xs:=[1,2]) rfl (by simp) _ rfl)).mono ?_
 rintro e w4 ⟨rfl,q,rfl⟩
 go_wp2_with fail
 go_ret
 refine⟨rfl,bdN (((((h.alloc h.size _).trans (F.mono ?_)).trans (G.mono ?_))).alloc ?_ _) _⟩
 all_goals
  have Y:=h.size
  have W:=F.size
  have s3:=G.size
  simp at W ⊢
  omega
theorem Awake3_any (w:World) :
  Calls Tryz.prog 401 #[] w fun e w'=>e=.returned (.bool true)/\Below w.heap.size w w':=by
 go_enter Tryz.func401,Tryz.ntmps401
 go_wp2_with fail
 refine (awake3_any _).mono ?_
 rintro e w' ⟨rfl,h⟩
 go_wp2_with fail
 go_ret
 exact⟨rfl,h⟩
theorem awake4_any (w:World) :
  Calls Tryz.prog 400 #[] w fun e w'=>e=.returned (.bool true)/\Below w.heap.size w w':=by
 go_enter Tryz.func400,Tryz.ntmps400
 go_wp2_with fail
 refine (at_any _ _ (by decide) (by decide)).mono ?_
 rintro e W ⟨rfl,rfl⟩
 rw[show cAdd 5 0=5 by decide]
 go_wp2_with fail
 refine (Awake3_any _).mono ?_
 rintro e h ⟨rfl,u⟩
 have c1:h.cell? ⟨w.heap.size+1,0,none⟩=some (.int .u64 5):=(u.cell (p:=⟨w.heap.size+1,0,none⟩) (by simp)).trans (by go_simp)
 have G:w.heap.size+1 < h.heap.size:=by have:=u.size; simp at this; omega
 have I:w.heap.size < h.heap.size:=by omega
 have J:w.heap.size < h.heap.size+1:=by omega
 go_wp2_with fail
 refine (after_any _ _ _ (by decide) (by decide) (by decide) (by decide)).mono ?_
 rintro e z ⟨rfl,rfl⟩
 rw[show cAdd 5 3=8 by decide]
 go_wp2_with fail
 refine (reached_any _ _ _).mono ?_
 rintro e z ⟨rfl,rfl⟩
 go_wp2_with fail
 refine (tick_any _ _ _ (by decide) (by decide) (by decide) (by decide)).mono ?_
 rintro e z ⟨rfl,rfl⟩
 rw[show cAdd 5 3=8 by decide]
 go_wp2_with fail
 refine (reached_any _ _ _).mono ?_
 rintro e z ⟨rfl,rfl⟩
 go_wp2_with fail
 go_ret
 refine⟨rfl,?_⟩
 have F:Below w.heap.size w h:=(((Below.refl _ _).alloc (Nat.le_refl _) _).alloc (by simp) _).trans (u.mono (by simp; omega))
 refine ((((((F.alloc ?_ _).alloc ?_ _).alloc ?_ _).alloc ?_ _).alloc ?_ _).alloc ?_ _)
 all_goals (first | omega | (simp; omega))
end Go.Proofs.YtoiklelghfckgaaGreatDoor.Ck
end
section
set_option linter.unusedVariables false
namespace Go.Proofs.YtoiklelghfckgaaGreatDoor.Rw
open Go Go.RowKit
def leftZ (md:Region.Mode) (ops:Array Oper) (listed:Array Bool) (is:List Nat) (z f:Nat):Bool:=
 (List.range ops.size).all (fun j=>listed.getD j true || is.contains j || j == z) && is.all (fun j=>decide (j < ops.size) && !listed.getD j true && j != z) && decide is.Nodup && decide (is.length+1=f) && decide (listed.size=ops.size) &&
 !listed.getD z true && decide (z < ops.size) && (match ops[z]? with | some oz=>is.all fun i=>oz.after.any fun e=>e.on == i && Region.binds md e | none=>false) && is.all (fun i=>match ops[i]? with | some oi=>oi.after.all fun e=>e.on != z | none=>false)
def allBut (n z:Nat):Array Bool:=(Array.replicate n true).setIfInBounds z false
theorem allBut_at {n z j:Nat} (G:j < n) (F:¬ z=j) (h:j < (allBut n z).size):(allBut n z)[j] = true:=by
 have u:(allBut n z)[j]? = some true:=by
  unfold allBut
  rw[Array.getElem?_setIfInBounds,if_neg F]
  simp[G]
 rw[Array.getElem?_eq_getElem h] at u
 injection u
section
variable {P:Program} {ops:Array Oper} {Q:Exit->Act->World->Prop} {md:Region.Mode} {S:World->Prop} {n:Nat}
theorem reg_stable_z (z:Nat) (u:List Nat) (R:World->World->Prop) (T:Nat->Value->World->Prop) {f:Nat} {G:Array Bool} {a:Act} {w:World}
  (hB:leftZ md ops G u z f=true) (hb:backB ops=true) (hA:apartB ops u=true) (hG:guardsB ops u=true) (hC:closedB md ops G=true)
  (au:u.all (fun i=>match dstOf ops i with | some d=>decide (d < a.tmps.size) | none=>true)=true)
  (hw:u.all (fun i=>match ops[i]? with | some o=>Region.wanted o (yielded ops a.tmps) | none=>true)=true)
  (ax:∀ w,R w w) (al:∀ w w' a3,R w w'->R w' a3->R w a3) (hT:∀ i v w w',T i v w->R w w'->T i v w') (hS:∀ w',R w w'->S w')
  (aL:Each (fun i=>∀ (a':Act) (w':World) (val:Nat->Value),R w w'->(∀ s,clearB ops u s=true->a'.tmps[s]?.getD undef=a.tmps[s]?.getD undef) ->
   (∀ j,u.contains j=true->waitsF md ops ops.size i j=true->T j (val j) w' /\ ∀ d,dstOf ops j=some d->a'.tmps[d]?.getD undef=val j) ->
   ∃ o,ops[i]? = some o/\o.wp P a' w' (fun ak a3=>∃ v,ak=a'.put o.dst v/\T i v a3/\R w' a3) Q) u)
  (aC:∀ (val:Nat->Value) (w':World),Each (fun i=>T i (val i) w') u->R w w'->wpAnyT P md ops Q n S 1 (allBut ops.size z) (puts ops val u a) w') :
  wpAnyT P md ops Q n S f G a w:=by
 simp only[leftZ,Bool.and_eq_true,List.all_eq_true,Bool.or_eq_true,decide_eq_true_eq,bne_iff_ne,ne_eq,beq_iff_eq] at hB
 obtain⟨⟨⟨⟨⟨⟨⟨⟨aw,a4⟩,aJ⟩,aH⟩,a7⟩,aP⟩,aS⟩,aj⟩,aR⟩:=hB
 have ar:ops[z]? = some ops[z]:=Array.getElem?_eq_getElem aS
 rw[ar] at aj
 simp only[List.all_eq_true] at aj
 have aQ:G.getD z true=false:=by simpa using aP
 have aA:∀ (j:Nat) (oj:Oper),ops[j]? = some oj -> ∀ e∈oj.after,e.on < j:=by
  intro j oj F e he
  have I:=List.all_eq_true.1 hb j (List.mem_range.2 (Array.getElem?_eq_some_iff.1 F).1)
  simp only[F] at I
  simpa using Array.all_eq_true_iff_forall_mem.1 I e he
 suffices main:∀ (f:Nat) (L:List Nat) (G:Array Bool) (a':Act) (w':World) (val:Nat->Value),
   L.Nodup->L.length=f->G.size=ops.size->(∀ j,j∈L->j∈u)->(∀ j,j < ops.size->(G.getD j true=false↔j∈L\/j=z))->Closed md ops G ->
   a'.tmps.size=a.tmps.size->a'.defers=a.defers->(∀ s,clearB ops u s=true->a'.tmps[s]? = a.tmps[s]?) ->
   (∀ j,j∈u->j ∉ L->T j (val j) w' /\ ∀ d,dstOf ops j=some d->a'.tmps[d]? = some (val j))->R w w'->wpAnyT P md ops Q n S (f+1) G a' w' by
  rw[<- aH]
  refine main u.length u G a w (fun _=>undef) aJ rfl a7 (fun _ h=>h) (fun j F=>⟨fun h=>?_,fun h=>?_⟩) (closedB_spec hC) rfl rfl (fun _ _=>rfl) (fun j I h2=>absurd I h2) (ax w)
  .rcases aw j (List.mem_range.2 F) with (I | I) | I
   .rw[h] at I; cases I
   .exact .inl (by simpa using I)
   .exact .inr I
  .rcases h with h | h
   .have:=(a4 j h).1.2
    simpa using this
   .subst h; exact aQ
 intro f
 induction f with
 | zero=>
  intro L G a' w' val ae a9 a7 a0 hL hC hs hd a6 hv a5
  obtain rfl:=List.eq_nil_of_length_eq_zero a9
  have aG:G=allBut ops.size z:=by
   apply Array.ext
   .simp[allBut,a7]
   .intro j I h2
    have F:j < ops.size:=by omega
    have W:=hL j F
    have h4:G.getD j true=G[j]:=by simp[I]
    rw[h4] at W
    by_cases e:j=z
    .subst e
     have:G[j] = false:=W.2 (.inr rfl)
     rw[this]; simp[allBut]
    .have h5:G[j] ≠ false:=fun h=>by
      rcases W.1 h with h | h
      .cases h
      .exact e h
     have h6:G[j] = true:=by simpa using h5
     have ez:¬ z=j:=fun h=>e h.symm
     rw[h6]; exact (allBut_at F ez h2).symm
  rw[aG]
  .have e:a'=puts ops val u a:=by
    have e1:a'.tmps=(puts ops val u a).tmps:=by
     apply Array.ext_getElem?
     intro s
     by_cases Y:clearB ops u s=true
     .rw[a6 s Y,puts_clear u a s Y]
     .obtain⟨i,hi,ag⟩:=not_clear Y
      have a8:s < a.tmps.size:=by
       have:=List.all_eq_true.1 au i hi
       rw[ag] at this
       simpa using this
      rw[(hv i hi (by simp)).2 s ag,puts_at u a i s hA hi ag a8]
    have e2:a'.defers=(puts ops val u a).defers:=by rw[hd,puts_defers]
    cases a'
    cases hp:puts ops val u a
    rw[hp] at e1 e2
    simp only at e1 e2
    rw[e1,e2]
   rw[e]
   exact aC val w' (Each.mk fun i hi=>(hv i hi (by simp)).1) a5
 | succ f ih=>
  intro L G a' w' val ae a9 a7 a0 hL hC hs hd a6 hv a5
  have aI:∀ j,j < ops.size->j ∉ L->j≠z->G.getD j false=true:=by
   intro j F hn aF
   have I:G.getD j true≠false:=fun e=>by
    rcases (hL j F).1 e with h | h
    .exact hn h
    .exact aF h
   have h2:j < G.size:=by omega
   simp[h2] at I ⊢
   exact I
  refine⟨fun h0=>?_,fun i hi=>?_⟩
  .exfalso
   have aK:∀ j,j∈L->False:=by
    intro j
    induction j using Nat.strongRecOn with
    | _ j ihj=>
     intro F
     have ad:j < ops.size:=by
      have:=(a4 j (a0 j F)).1.1
      exact this
     have ai:ops[j]? = some ops[j]:=Array.getElem?_eq_getElem ad
     have:j∈Region.ready md ops G:=by
      refine mem_ready.2 ⟨(hL j ad).2 (.inl F),ops[j],ai,fun e he aT=>?_⟩
      have a8:=aA j _ ai e he
      have aD:e.on≠z:=by
       have h7:=aR j (a0 j F)
       rw[ai] at h7
       have h8:=Array.all_eq_true_iff_forall_mem.1 h7 e he
       simpa using h8
      exact aI e.on (by omega) (fun hm=>ihj e.on a8 hm) aD
     rw[h0] at this
     cases this
   cases L with
   | nil=>simp at a9
   | cons x l=>exact aK x (by simp)
  .obtain⟨I,oi,J,an⟩:=mem_ready.1 hi
   have aE:i < ops.size:=(Array.getElem?_eq_some_iff.1 J).1
   have ao:i∈L:=by
    rcases (hL i aE).1 I with h | h
    .exact h
    .exfalso
     subst h
     cases L with
     | nil=>simp at a9
     | cons x l=>
      have hx:=aj x (a0 x (by simp))
      rw[Array.any_eq_true] at hx
      obtain⟨k,hk,hx⟩:=hx
      simp only[Bool.and_eq_true,beq_iff_eq] at hx
      rw[ar] at J
      injection J with J
      have h9:=an (oi.after[k]'(by rw[<- J]; exact hk)) (Array.getElem_mem _) (by subst J; exact hx.2)
      subst J
      rw[hx.1] at h9
      have av:=(hL x (a4 x (a0 x (by simp))).1.1).2 (.inl (by simp))
      rw[unlisted av] at h9
      cases h9
   have a2:=a0 i ao
   have aN:Region.wanted oi (yielded ops a'.tmps)=true:=by
    have h2:=List.all_eq_true.1 hw i a2
    simp only[J] at h2
    rw[<- h2]
    refine wanted_same ?_
    have W:=List.all_eq_true.1 hG i a2
    simp only[J] at W
    cases hg:oi.guard with
    | none=>trivial
    | some g=>
     obtain⟨g,q⟩:=g
     rw[hg] at W
     simp only at W ⊢
     cases hdg:dstOf ops g with
     | none=>trivial
     | some d=>
      rw[hdg] at W
      exact a6 d W
   obtain⟨o,ho,aM⟩:=(Each.of aL) i a2 a' w' val a5 (fun s Y=>by rw[a6 s Y]) (fun j F aO=>by
    have ah:j∈u:=by simpa using F
    have hl:=waitsF_listed hC _ i oi J an aO
    have ac:j ∉ L:=by
     intro hm
     have ad:j < ops.size:=(a4 j ah).1.1
     have:=(hL j ad).2 (.inl hm)
     rw[unlisted this] at hl
     cases hl
    refine⟨(hv j ah ac).1,fun d aB=>?_⟩
    rw[(hv j ah ac).2 d aB]
    rfl)
   rw[J] at ho
   injection ho with ho
   subst ho
   unfold wpOp
   simp only[J,aN,if_true]
   refine .inl (Oper.wp_mono ?_ aM)
   rintro ak a3 ⟨v,rfl,ay,af⟩
   have aa:dstOf ops i=oi.dst:=by simp[dstOf,J]
   refine⟨fun _=>hS _ (al _ _ _ a5 af),ih (L.erase i) _ _ _ (fun j=>if j=i then v else val j) (ae.erase i) (by rw[List.length_erase_of_mem ao]; omega) (by simpa using a7) (fun j F=>a0 j (List.mem_of_mem_erase F)) ?_ (hC.set hi) (by rw[put_size]; exact hs) (by rw[put_defers]; exact hd) ?_ ?_ (al _ _ _ a5 af)⟩
   .intro j F
    by_cases e:j=i
    .subst e
     constructor
     .intro h
      have a8:j < G.size:=by omega
      simp[a8] at h
     .rintro (h | h)
      .exact absurd h (List.Nodup.not_mem_erase ae)
      .exact absurd h (a4 j a2).2
    .rw[getD_set_ne true (Ne.symm e),hL j F,List.mem_erase_of_ne e]
   .intro s Y
    rw[<- a6 s Y]
    refine put_at_ne _ _ _ _ ?_
    have:=List.all_eq_true.1 Y i a2
    rw[aa] at this
    simpa using this
   .intro j F ac
    by_cases e:j=i
    .subst e
     simp only[if_true]
     refine⟨ay,fun d a1=>?_⟩
     rw[aa] at a1
     rw[a1]
     refine put_at_eq _ _ _ ?_
     have:=List.all_eq_true.1 au j F
     rw[aa,a1] at this
     rw[hs]
     simpa using this
    .simp only[e,if_false]
     have aq:j ∉ L:=fun hm=>ac ((List.mem_erase_of_ne e).2 hm)
     refine⟨hT _ _ _ _ (hv j F aq).1 af,fun d a1=>?_⟩
     rw[<- (hv j F aq).2 d a1]
     refine put_at_ne _ _ _ _ ?_
     intro e2
     -- two of 'is' that write one slot
     have az:∀ (u:List Nat),apartB ops u=true->i∈u->j∈u->dstOf ops i=some d->dstOf ops j=some d->i=j:=by
      intro u
      induction u with
      | nil=>intro _ h; cases h
      | cons x l ihl=>
       intro hA I h2 d1 d2
       simp only[apartB,Bool.and_eq_true] at hA
       have Y:∀ k,k∈l->dstOf ops x=some d->dstOf ops k≠some d:=by
        intro k hk hx
        have W:=hA.1
        rw[hx] at W
        have:=List.all_eq_true.1 W k hk
        simpa using this
       rcases List.mem_cons.1 I with q1 | q1 <;> rcases List.mem_cons.1 h2 with q2 | q2
       .rw[q1,q2]
       .exact absurd d2 (Y j q2 (q1 ▸ d1))
       .exact absurd d1 (Y i q1 (q2 ▸ d2))
       .exact ihl hA.2 q1 q2 d1 d2
     exact e (az u hA a2 F (by rw[aa]; exact e2) a1).symm
end
def leftZs (md:Region.Mode) (ops:Array Oper) (listed:Array Bool) (is zs:List Nat) (f:Nat):Bool:=
 (List.range ops.size).all (fun j=>listed.getD j true || is.contains j || zs.contains j) && is.all (fun j=>decide (j < ops.size) && !listed.getD j true && !zs.contains j) && decide is.Nodup && decide (is.length+zs.length=f) && decide (listed.size=ops.size) &&
 zs.all (fun z=>!listed.getD z true && decide (z < ops.size) && is.all fun i=>waitsF md ops ops.size z i) && is.all (fun i=>match ops[i]? with | some oi=>oi.after.all fun e=>!zs.contains e.on | none=>false)
def allButs (n:Nat) (zs:List Nat):Array Bool:=((List.range n).map fun j=>!zs.contains j).toArray
theorem allButs_at {n j:Nat} {zs:List Nat} (h:j < (allButs n zs).size):(allButs n zs)[j] = !zs.contains j:=by
 simp[allButs]
section
variable {P:Program} {ops:Array Oper} {Q:Exit->Act->World->Prop} {md:Region.Mode} {S:World->Prop} {n:Nat}
theorem reg_stable_zs (zs u:List Nat) (R:World->World->Prop) (T:Nat->Value->World->Prop) (D:Nat->Nat->Value->Value->Prop) {f:Nat} {G:Array Bool} {a:Act} {w:World}
  (hB:leftZs md ops G u zs f=true) (hb:backB ops=true) (hA:apartB ops u=true) (hG:guardsB ops u=true) (hC:closedB md ops G=true)
  (aB:u.all (fun i=>match dstOf ops i with | some d=>decide (d < a.tmps.size) | none=>true)=true)
  (hw:u.all (fun i=>match ops[i]? with | some o=>Region.wanted o (yielded ops a.tmps) | none=>true)=true)
  (aE:∀ w,R w w) (aq:∀ w w' a4,R w w'->R w' a4->R w a4) (hT:∀ i v w w',T i v w->R w w'->T i v w') (hS:∀ w',R w w'->S w')
  (aS:Each (fun i=>∀ (a':Act) (w':World) (val:Nat->Value),R w w'->(∀ s,clearB ops u s=true->a'.tmps[s]?.getD undef=a.tmps[s]?.getD undef) ->
   (∀ j,u.contains j=true->waitsF md ops ops.size i j=true->T j (val j) w' /\ ∀ d,dstOf ops j=some d->a'.tmps[d]?.getD undef=val j)->(∀ an:Nat->Prop,(∀ j,an j->T j (val j) w') ->
   ∃ o,ops[i]? = some o/\o.wp P a' w' (fun al a4=>∃ v,al=a'.put o.dst v/\T i v a4/\R w' a4 /\ ∀ j,an j->D i j v (val j)) Q)) u)
  (aJ:∀ (val:Nat->Value) (w':World),Each (fun i=>T i (val i) w') u->(∀ i j,i∈u->j∈u->i≠j->D i j (val i) (val j)\/D j i (val j) (val i))->R w w'->wpAnyT P md ops Q n S zs.length (allButs ops.size zs) (puts ops val u a) w') :
  wpAnyT P md ops Q n S f G a w:=by
 simp only[leftZs,Bool.and_eq_true,List.all_eq_true,Bool.or_eq_true,decide_eq_true_eq] at hB
 obtain⟨⟨⟨⟨⟨⟨aD,a5⟩,aQ⟩,aO⟩,a8⟩,hZ⟩,aW⟩:=hB
 have aH:∀ (j:Nat) (oj:Oper),ops[j]? = some oj -> ∀ e∈oj.after,e.on < j:=by
  intro j oj z e he
  have F:=List.all_eq_true.1 hb j (List.mem_range.2 (Array.getElem?_eq_some_iff.1 z).1)
  simp only[z] at F
  simpa using Array.all_eq_true_iff_forall_mem.1 F e he
 suffices main:∀ (f:Nat) (L:List Nat) (G:Array Bool) (a':Act) (w':World) (val:Nat->Value),
   L.Nodup->L.length=f->G.size=ops.size->(∀ j,j∈L->j∈u)->(∀ j,j < ops.size->(G.getD j true=false↔j∈L\/j∈zs))->Closed md ops G ->
   a'.tmps.size=a.tmps.size->a'.defers=a.defers->(∀ s,clearB ops u s=true->a'.tmps[s]? = a.tmps[s]?) ->
   (∀ j,j∈u->j ∉ L->T j (val j) w' /\ ∀ d,dstOf ops j=some d->a'.tmps[d]? = some (val j))->(∀ i j,i∈u->j∈u->i ∉ L->j ∉ L->i≠j->D i j (val i) (val j)\/D j i (val j) (val i))->R w w'->wpAnyT P md ops Q n S (f+zs.length) G a' w' by
  rw[<- aO]
  refine main u.length u G a w (fun _=>undef) aQ rfl a8 (fun _ h=>h) (fun j z=>⟨fun h=>?_,fun h=>?_⟩) (closedB_spec hC) rfl rfl (fun _ _=>rfl) (fun j F h2=>absurd F h2) (fun i j F h2 I h4 h5=>absurd F I) (aE w)
  .rcases aD j (List.mem_range.2 z) with (F | F) | F
   .rw[h] at F; cases F
   .exact .inl (by simpa using F)
   .exact .inr (by simpa using F)
  .rcases h with h | h
   .have:=(a5 j h).1.2
    simpa using this
   .have:=(hZ j h).1.1
    simpa using this
 intro f
 induction f with
 | zero=>
  intro L G a' w' val ag aa a8 a1 hL hC hs hd a7 hv af a6
  obtain rfl:=List.eq_nil_of_length_eq_zero aa
  have aN:G=allButs ops.size zs:=by
   apply Array.ext
   .simp[allButs,a8]
   .intro j F h2
    have z:j < ops.size:=by omega
    have I:=hL j z
    have h4:G.getD j true=G[j]:=by simp[F]
    rw[h4] at I
    rw[allButs_at]
    by_cases e:j∈zs
    .have:G[j] = false:=I.2 (.inr e)
     rw[this]; simp[e]
    .have h5:G[j] ≠ false:=fun h=>by
      rcases I.1 h with h | h
      .cases h
      .exact e h
     have h6:G[j] = true:=by simpa using h5
     rw[h6]; simp[e]
  rw[Nat.zero_add]
  rw[aN]
  .have e:a'=puts ops val u a:=by
    have e1:a'.tmps=(puts ops val u a).tmps:=by
     apply Array.ext_getElem?
     intro s
     by_cases Y:clearB ops u s=true
     .rw[a7 s Y,puts_clear u a s Y]
     .obtain⟨i,hi,ai⟩:=not_clear Y
      have a9:s < a.tmps.size:=by
       have:=List.all_eq_true.1 aB i hi
       rw[ai] at this
       simpa using this
      rw[(hv i hi (by simp)).2 s ai,puts_at u a i s hA hi ai a9]
    have W:a'.defers=(puts ops val u a).defers:=by rw[hd,puts_defers]
    cases a'
    cases hp:puts ops val u a
    rw[hp] at e1 W
    simp only at e1 W
    rw[e1,W]
   rw[e]
   exact aJ val w' (Each.mk fun i hi=>(hv i hi (by simp)).1) (fun i j hi z hn=>af i j hi z (by simp) (by simp) hn) a6
 | succ f ih=>
  intro L G a' w' val ag aa a8 a1 hL hC hs hd a7 hv af a6
  rw[show f+1+zs.length=(f+zs.length)+1 by omega]
  have aP:∀ j,j < ops.size->j ∉ L->j ∉ zs->G.getD j false=true:=by
   intro j z hn aM
   have F:G.getD j true≠false:=fun e=>by
    rcases (hL j z).1 e with h | h
    .exact hn h
    .exact aM h
   have h2:j < G.size:=by omega
   simp[h2] at F ⊢
   exact F
  refine⟨fun h0=>?_,fun i hi=>?_⟩
  .exfalso
   have aR:∀ j,j∈L->False:=by
    intro j
    induction j using Nat.strongRecOn with
    | _ j ihj=>
     intro z
     have ae:j < ops.size:=by
      have:=(a5 j (a1 j z)).1.1
      exact this
     have ak:ops[j]? = some ops[j]:=Array.getElem?_eq_getElem ae
     have:j∈Region.ready md ops G:=by
      refine mem_ready.2 ⟨(hL j ae).2 (.inl z),ops[j],ak,fun e he aY=>?_⟩
      have a9:=aH j _ ak e he
      have aK:e.on ∉ zs:=by
       have h7:=aW j (a1 j z)
       rw[ak] at h7
       have h8:=Array.all_eq_true_iff_forall_mem.1 h7 e he
       simpa using h8
      exact aP e.on (by omega) (fun J=>ihj e.on a9 J) aK
     rw[h0] at this
     cases this
   cases L with
   | nil=>simp at aa
   | cons x l=>exact aR x (by simp)
  .obtain⟨F,oi,a0,ar⟩:=mem_ready.1 hi
   have aL:i < ops.size:=(Array.getElem?_eq_some_iff.1 a0).1
   have av:i∈L:=by
    rcases (hL i aL).1 F with h | h
    .exact h
    .exfalso
     have aX:=(hZ i h).2
     cases L with
     | nil=>simp at aa
     | cons x l=>
      have hx:=aX x (a1 x (by simp))
      have h9:=waitsF_listed hC _ i oi a0 ar hx
      have aC:=(hL x (a5 x (a1 x (by simp))).1.1).2 (.inl (by simp))
      rw[unlisted aC] at h9
      cases h9
   have a3:=a1 i av
   have aU:Region.wanted oi (yielded ops a'.tmps)=true:=by
    have h2:=List.all_eq_true.1 hw i a3
    simp only[a0] at h2
    rw[<- h2]
    refine wanted_same ?_
    have I:=List.all_eq_true.1 hG i a3
    simp only[a0] at I
    cases hg:oi.guard with
    | none=>trivial
    | some g=>
     obtain⟨g,q⟩:=g
     rw[hg] at I
     simp only at I ⊢
     cases hdg:dstOf ops g with
     | none=>trivial
     | some d=>
      rw[hdg] at I
      exact a7 d I
   obtain⟨o,ho,aT⟩:=(Each.of aS) i a3 a' w' val a6 (fun s Y=>by rw[a7 s Y]) (fun j z aV=>by
    have aj:j∈u:=by simpa using z
    have hl:=waitsF_listed hC _ i oi a0 ar aV
    have ad:j ∉ L:=by
     intro J
     have ae:j < ops.size:=(a5 j aj).1.1
     have:=(hL j ae).2 (.inl J)
     rw[unlisted this] at hl
     cases hl
    refine⟨(hv j aj ad).1,fun d aI=>?_⟩
    rw[(hv j aj ad).2 d aI]
    rfl) (fun j=>j∈u/\j ∉ L) (fun j z=>(hv j z.1 z.2).1)
   rw[a0] at ho
   injection ho with ho
   subst ho
   unfold wpOp
   simp only[a0,aU,if_true]
   refine .inl (Oper.wp_mono ?_ aT)
   rintro al a4 ⟨v,rfl,aF,ah,ao⟩
   have ac:dstOf ops i=oi.dst:=by simp[dstOf,a0]
   refine⟨fun _=>hS _ (aq _ _ _ a6 ah),ih (L.erase i) _ _ _ (fun j=>if j=i then v else val j) (ag.erase i) (by rw[List.length_erase_of_mem av]; omega) (by simpa using a8) (fun j z=>a1 j (List.mem_of_mem_erase z)) ?_ (hC.set hi) (by rw[put_size]; exact hs) (by rw[put_defers]; exact hd) ?_ ?_ ?_ (aq _ _ _ a6 ah)⟩
   .intro j z
    by_cases e:j=i
    .subst e
     constructor
     .intro h
      have a9:j < G.size:=by omega
      simp[a9] at h
     .rintro (h | h)
      .exact absurd h (List.Nodup.not_mem_erase ag)
      .exact absurd h (by simpa using (a5 j a3).2)
    .rw[getD_set_ne true (Ne.symm e),hL j z,List.mem_erase_of_ne e]
   .intro s Y
    rw[<- a7 s Y]
    refine put_at_ne _ _ _ _ ?_
    have:=List.all_eq_true.1 Y i a3
    rw[ac] at this
    simpa using this
   .intro j z ad
    by_cases e:j=i
    .subst e
     simp only[if_true]
     refine⟨aF,fun d a2=>?_⟩
     rw[ac] at a2
     rw[a2]
     refine put_at_eq _ _ _ ?_
     have:=List.all_eq_true.1 aB j z
     rw[ac,a2] at this
     rw[hs]
     simpa using this
    .simp only[e,if_false]
     have ax:j ∉ L:=fun J=>ad ((List.mem_erase_of_ne e).2 J)
     refine⟨hT _ _ _ _ (hv j z ax).1 ah,fun d a2=>?_⟩
     rw[<- (hv j z ax).2 d a2]
     refine put_at_ne _ _ _ _ ?_
     intro W
     -- two of 'is' that write one slot
     have aG:∀ (u:List Nat),apartB ops u=true->i∈u->j∈u->dstOf ops i=some d->dstOf ops j=some d->i=j:=by
      intro u
      induction u with
      | nil=>intro _ h; cases h
      | cons x l ihl=>
       intro hA F h2 d1 d2
       simp only[apartB,Bool.and_eq_true] at hA
       have Y:∀ k,k∈l->dstOf ops x=some d->dstOf ops k≠some d:=by
        intro k hk hx
        have I:=hA.1
        rw[hx] at I
        have:=List.all_eq_true.1 I k hk
        simpa using this
       rcases List.mem_cons.1 F with q1 | q1 <;> rcases List.mem_cons.1 h2 with q2 | q2
       .rw[q1,q2]
       .exact absurd d2 (Y j q2 (q1 ▸ d1))
       .exact absurd d1 (Y i q1 (q2 ▸ d2))
       .exact ihl hA.2 q1 q2 d1 d2
     exact e (aG u hA a3 z (by rw[ac]; exact W) a2).symm
   .intro i2 j2 au aw az ay aA
    by_cases e1:i2=i
    .have W:j2≠i:=fun e=>aA (e1.trans e.symm)
     simp only[e1,W,if_true,if_false]
     exact .inl (ao j2 ⟨aw,fun J=>ay ((List.mem_erase_of_ne W).2 J)⟩)
    .by_cases W:j2=i
     .simp only[e1,W,if_true,if_false]
      exact .inr (ao i2 ⟨au,fun J=>az ((List.mem_erase_of_ne e1).2 J)⟩)
     .simp only[e1,W,if_false]
      exact af i2 j2 au aw (fun J=>az ((List.mem_erase_of_ne e1).2 J)) (fun J=>ay ((List.mem_erase_of_ne W).2 J)) aA
end
end Go.Proofs.YtoiklelghfckgaaGreatDoor.Rw
end
section
set_option maxRecDepth 100000
set_option maxHeartbeats 8000000
set_option linter.unusedVariables false
namespace Go.Proofs.YtoiklelghfckgaaGreatDoor.Wd
open Go.ChangeShapes Go.WideShapes Go.ChangeAt Go.RowKit
theorem rof_math (s v:Int) (h:0<=v):4 * (v % 4611686018427387904)+s % 4=wOf s v:=by unfold wOf; omega
theorem tmod4 (s:Int):(0<=s->s.tmod 4=s % 4)/\(s < 0->s.tmod 4 = -((-s) % 4)):=by
 constructor
 .intro h; exact Int.tmod_eq_emod_of_nonneg h
 .intro h
  have:s = -(-s):=by omega
  rw[this,Int.neg_tmod,Int.tmod_eq_emod_of_nonneg (by omega)]; omega
theorem tmod4_neg (s:Int) (h:s.tmod 4 < 0):s.tmod 4+4=s % 4:=by
 have:=tmod4 s; omega
theorem tmod4_pos (s:Int) (h:¬ s.tmod 4 < 0):s.tmod 4=s % 4:=by
 have:=tmod4 s; omega
theorem rof_any (s v:Int) (w:World) (F:0<=v) (J:v<=18446744073709551615) (Q:-9223372036854775808<=s) (W:s<=9223372036854775807) :
  Calls Tryz.prog 133 #[.int .i64 s,.int .u64 v] w fun e w'=>e=.returned (.int .u64 (wOf s v))/\w=w':=by
 have I:=tmod4 s
 have z:=tmod4_pos s
 have hn:=tmod4_neg s
 have Y:-4 < s.tmod 4/\s.tmod 4 < 4:=by omega
 clear I
 by_cases hs:s.tmod 4 < 0
 .have h:=hn hs
  have u:=Lh h
  have G:0<=s.tmod 4+4/\s.tmod 4+4 < 4:=by omega
  clear z hn h
  go_enter Tryz.func133,Tryz.ntmps133
  go_wp2
  go_ret
  exact⟨ret_int (by rw[u.out]; exact rof_math s v F),rfl⟩
 .have h:=z hs
  have u:=Lh h
  have G:0<=s.tmod 4:=by omega
  clear z hn h
  go_enter Tryz.func133,Tryz.ntmps133
  go_wp2
  go_ret
  exact⟨ret_int (by rw[u.out]; exact rof_math s v F),rfl⟩
theorem six (x:Int):x=0\/x=1\/x=2\/x=3\/x < 0\/(0<=x/\3 < x):=by omega
end Go.Proofs.YtoiklelghfckgaaGreatDoor.Wd
namespace Go.Proofs.YtoiklelghfckgaaGreatDoor.Rw
open Go.ChangeShapes Go.WideShapes Go.ChangeAt Go.RowKit
def Kr (K:Nat->Prop) (A:Option Addr):Prop:=∀ a,A=some a->K a.block
theorem Kr.nil_ {K:Nat->Prop} : Kr K none:=fun _ e=>by cases e
theorem Kr.own {K:Nat->Prop} {w:World} {base:Nat} {e:TypeId} {z n c k:Nat} {A:Option Addr} {xs:List Value} (h:w.ownsRow base e z (.slice A n c) k xs) (u:∀ g,base<=g->K g):Kr K A:=by
 intro a ha
 subst ha
 exact u _ (h.lt a.block rfl).1
abbrev Kn (K:Nat->Prop) (n:Nat) (A:Option Addr):Prop:=0 < n->Kr K A
theorem Kn.nil_ {K:Nat->Prop} {n:Nat} : Kn K n none:=fun _=>Kr.nil_
theorem Kn.own {K:Nat->Prop} {w:World} {base:Nat} {e:TypeId} {z n c k m:Nat} {A:Option Addr} {xs:List Value} (h:w.ownsRow base e z (.slice A n c) k xs) (u:∀ g,base<=g->K g):Kn K m A:=fun _=>Kr.own h u
end Go.Proofs.YtoiklelghfckgaaGreatDoor.Rw
namespace Go.Proofs.YtoiklelghfckgaaGreatDoor.Sn
open Go.ChangeShapes Go.WideShapes Go.ChangeAt Go.RowKit Rw Sl
theorem rindex_any (A:Option Addr) (n c:Nat) (xs:List Int) (x:Int) (B:Nat) (w:World) (h:Rd (Value.int .u64) w B A n c xs) :
  Calls Tryz.prog 206 #[.slice A n c,.int .u64 x] w fun e w'=>e=.returned (.int .i64 (sIdx xs x))/\w=w':=by
 have hn:n<=9223372036854775807:=by have:=h.cap; have:=h.top; omega
 have z:=Lh h
 clear h
 go_enter Tryz.func206,Tryz.ntmps206
 go_wp2
 go_loop [5,9] (fun _ i=>∃ k:Nat,k<=n/\i=.int .i64 k/\x ∉ xs.take k) (fun _ i=>n - (intOf i).toNat)
 case atStart=>exact⟨0,Nat.zero_le _,rfl,by simp⟩
 case round=>
  obtain⟨k,hk,rfl,G⟩:=hrel
  have u:=Lh G
  clear G
  by_cases hlt:k < n
  .obtain⟨b,o,y,rfl,Q,I,W⟩:=z.out.get hlt
   have F:=Lh I
   clear I
   by_cases hxy:y=x
   .subst hxy
    go_wp2
    go_ret
    exact⟨by rw[sIdx_hit xs y k F.out u.out]; rfl,rfl⟩
   .have hq:(y == x)=false:=by simpa using hxy
    have J:=Lh hxy
    clear hxy
    go_wp2
    go_round
    case rel=>exact⟨k+1,by omega,by go_num,not_mem_snoc F.out u.out (fun e=>J.out e.symm)⟩
    case measure=>simp[intOf]; omega
  .have Y:k=n:=by omega
   go_wp2
   go_ret
   exact⟨by rw[sIdx_miss xs x (by have:=u.out; rwa [List.take_of_length_le (by have:=z.out.len; omega)] at this)]; rfl,rfl⟩
theorem rwithK_any {K:Nat->Prop} (A:Option Addr) (n c:Nat) (xs:List Int) (x:Int) (w:World) (h:Rd (Value.int .u64) w w.heap.size A n c xs) (hl:n * 8+8<=140737488355328) (hk:Kn K n A) (I:∀ g,w.heap.size<=g->K g) :
  Calls Tryz.prog 180 #[.slice A n c,.int .u64 x] w fun e w'=>∃ A' F G,e=.returned (.slice A' F G)/\Rd (Value.int .u64) w' w'.heap.size A' F G (sWith xs x)/\Kn K F A'/\Below w.heap.size w w':=by
 obtain⟨i0,hi,Y,a0,a1⟩:=info_parts info_u64
 have z:=Lh h
 have a3:=Lh hk
 have a2:=Lh I
 clear h hk I
 by_cases hm:x∈xs
 .have a5:0<=sIdx xs x:=by have:=sIdx_neg xs x; have:=mt this.1 (by simpa using hm); omega
  have u:sWith xs x=xs:=by simp[sWith,hm]
  rw[u]
  clear hm u
  go_enter Tryz.func180,Tryz.ntmps180
  go_wp2_with fail
  refine (rindex_any A n c xs x _ _ z.out).mono ?_
  rintro e w1 ⟨rfl,rfl⟩
  go_wp2_with fail
  go_ret
  exact⟨A,n,c,rfl,z.out,a3.out,Below.refl _ _⟩
 .have a5:sIdx xs x < 0:=(sIdx_neg xs x).2 hm
  have u:sWith xs x=xs ++ [x]:=by simp[sWith,hm]
  rw[u]
  clear hm u
  go_enter Tryz.func180,Tryz.ntmps180
  go_wp2_with fail
  refine (rindex_any A n c xs x _ _ z.out).mono ?_
  rintro e w1 ⟨rfl,rfl⟩
  go_wp2_with (first
   | (at_builtin; refine apRd _ rfl (.tmp 11) (.tmp 12) 30 rfl w.heap.size 25 i0 (.int .u64 0) 8 Tryz.underlying30 hi Y a0 a1 rfl (.slice none 0 0) 0 [] rfl (World.ownsRow_nil _ _ _ _) _ A n c xs rfl z.out one_u64 n (Nat.zero_add _) (xs.map (Value.int .u64)) rfl (by unfold maxLen; omega) (by omega) (Nat.le_refl _) ?_; intro v2 a9 w2 Q J a7; have a6:=J.size)
   | (at_builtin; refine apRd _ rfl (.tmp 14) (.tmp 16) 30 rfl w.heap.size 25 i0 (.int .u64 0) 8 Tryz.underlying30 hi Y a0 a1 rfl _ n _ rfl (Q.alloc _) _ _ 1 1 [x] rfl (rd_one (enc:=Value.int .u64) w2 x _) one_u64 (n+1) rfl ((xs ++ [x]).map (Value.int .u64)) List.map_append.symm (by unfold maxLen; omega) (by omega) (by simp; omega) ?_; intro v3 aa w3 W a4 a8))
  go_ret
  refine⟨_,_,_,rfl,Rd.own_rd W,Kn.own W a2.out,(((Below.refl _ _).grown J (Nat.le_refl _) (fun k hk=>by cases hk)).alloc a6 _).grown a4 (by simp; omega) (fun k hk=>(Q.lt k hk).1)⟩
end Go.Proofs.YtoiklelghfckgaaGreatDoor.Sn
end
