/- A part of the claim. -/
import Derived.Test.YtoiklelghfckgaaGreatDoorYK2
import Derived.Defers
import Derived.Recover
import Derived.Maps.Range
import Derived.Shelf.Strconv.Itoa3
import Derived.Shelf.Strings.OnBuilder
section
set_option maxRecDepth 100000
set_option maxHeartbeats 8000000
set_option linter.unusedVariables false
namespace Go.Proofs.YtoiklelghfckgaaGreatDoor.Gd
open Go.ChangeShapes Go.WideShapes Go.ChangeAt Go.RowKit
theorem makeFunc_run (fn:Fn) (first cap:Array Value) (w:World):(Instr.makeFunc fn first cap).run Tryz.prog w=.ok (.func fn first cap) w:=rfl
theorem func_ne (fn:Fn) (first cap:Array Value) (w:World):(binOp BinOp.neq 1 (.func fn first cap) .nilFunc).run Tryz.prog w=.ok (.bool true) w:=by kernel_rfl
def Plain (e:Ending):Prop:=e=.returned (.tuple #[]) \/ ∃ c,e=.panicked c
theorem call_fn {K:FuncId} {first cap:Array Value} {w:World} {R:Ending->World->Prop} (z:∀ e w',R e w'->Plain e) (F:∀ w,(callFunc K (first ++ cap)).run Tryz.prog w=.ok (.enter K (first ++ cap)) w) (h:Calls Tryz.prog K (first ++ cap) w R) :
  Calls Tryz.prog 396 #[.func (.func K) first cap] w R:=by
 have hn:=func_ne
 go_enter Tryz.func396,Tryz.ntmps396
 go_wp2_with fail
 refine h.mono ?_
 rintro e w' u
 rcases z e w' u with rfl | ⟨c,rfl⟩
 .go_wp2_with fail
  go_end0
  exact u
 .exact⟨rfl,u⟩
theorem tried_panic (p q:Addr) (u:TypeId) (h Q:Value) (z:List PanicEntry) (w:World) (F:w.cell? p=some (.bool true)) (hq:w.cell? q=some Q) (I:w.frozen? q=false) :
  CallsD Tryz.prog 395 #[.pointer (some p),.pointer (some q)] (.panicking ({ v:=.iface u h,recovered:=false } :: z)) w fun e J w'=>
   e=.returned (.tuple #[])/\J=.panicking ({ v:=.iface u h,recovered:=true } :: z)/\w'=w.setCell q (.iface u h):=by
 refine callsD_of_wpS Tryz.func395 rfl fun W cs G=>?_
 apply wpS_seq
 apply wpS_region
 simp[wpOpsS,go_sem,Tryz.ntmps395,Exit.thenS,F]
 refine wpS_cond (t:=true) (by simp[Act.eval,Array.replicate]) ?_
 simp only[if_true]
 apply wpS_region
 simp[wpOpsS,go_sem,recoverD,G,hq,I,bodyPostS,results,Tryz.results395]
theorem tried_idle (p q:Addr) (w:World) (u:w.cell? p=some (.bool false)) :
  CallsD Tryz.prog 395 #[.pointer (some p),.pointer (some q)] .returning w fun e z w'=>
   e=.returned (.tuple #[])/\z=.returning/\w'=w:=by
 refine callsD_of_wpS Tryz.func395 rfl fun h cs F=>?_
 apply wpS_seq
 apply wpS_region
 simp[wpOpsS,go_sem,Tryz.ntmps395,Exit.thenS,u]
 refine wpS_cond (t:=false) (by simp[Act.eval,Array.replicate]) ?_
 simp only[Bool.false_eq_true,if_false]
 refine wpS_of_wp (wp_skip ?_)
 cases h
 simp_all [bodyPostS,results,Tryz.results395]
def tryWorld (w:World):World:=(w.alloc (.cells #[.nilIface] 20)).alloc (.cells #[.bool true] 4)
def TryKept (w w0:World):Prop:=w0.cell? ⟨w.heap.size,0,none⟩=some .nilIface/\w0.cell? ⟨w.heap.size+1,0,none⟩=some (.bool true)/\w0.frozen? ⟨w.heap.size,0,none⟩=false/\w0.frozen? ⟨w.heap.size+1,0,none⟩=false
def Once (e:Ending):Prop:=e=.returned (.tuple #[]) \/ ∃ T v,e=.panicked [{ v:=.iface T v,recovered:=false }]
def Tries (w:World) (e0:Ending) (w0:World) (e:Ending) (w':World):Prop:=
 (e0=.returned (.tuple #[])/\e=.returned (.tuple #[.nilIface,.bool false])/\w'=(w0.setCell ⟨w.heap.size,0,none⟩ .nilIface).setCell ⟨w.heap.size+1,0,none⟩ (.bool false)) \/
 (∃ T v,e0=.panicked [{ v:=.iface T v,recovered:=false }] /\ e=.returned (.tuple #[.iface T v,.bool true])/\w'=w0.setCell ⟨w.heap.size,0,none⟩ (.iface T v))
theorem try_fn {K:FuncId} {first cap:Array Value} {w:World} {R:Ending->World->Prop} (Y:∀ e w',R e w'->Once e/\TryKept w w')
  (hK:∀ w,(callFunc K (first ++ cap)).run Tryz.prog w=.ok (.enter K (first ++ cap)) w) (h:Calls Tryz.prog K (first ++ cap) (tryWorld w) R) :
  Calls Tryz.prog 393 #[.func (.func K) first cap] w fun e w'=>∃ W u,R W u/\Tries w W u e w':=by
 have a3:=makeFunc_run
 go_enter_defers Tryz.func393,Tryz.ntmps393
 go_wp2_with fail
 refine (call_fn (R:=R) (fun e w' z=>?_) hK h).mono ?_
 .rcases (Y e w' z).1 with h | ⟨T,v,h⟩
  .exact .inl h
  .exact .inr ⟨_,h⟩
 rintro e u z
 obtain⟨ho,G,I,h3,h4⟩:=Y e u z
 have J:(⟨w.heap.size,0,none⟩:Addr)≠⟨w.heap.size+1,0,none⟩:=fun e=>by injection e with e; omega
 rcases ho with rfl | ⟨T,v,rfl⟩
 .go_wp2_with fail
  have F:(u.setCell ⟨w.heap.size,0,none⟩ .nilIface).cell? ⟨w.heap.size,0,none⟩=some .nilIface:=World.cell?_setCell_same _ _ _ G
  have b1:(u.setCell ⟨w.heap.size,0,none⟩ .nilIface).cell? ⟨w.heap.size+1,0,none⟩=some (.bool true):=(World.cell?_setCell_other _ _ _ _ J).trans I
  have Q:((u.setCell ⟨w.heap.size,0,none⟩ .nilIface).setCell ⟨w.heap.size+1,0,none⟩ (.bool false)).cell? ⟨w.heap.size+1,0,none⟩=some (.bool false):=World.cell?_setCell_same _ _ _ b1
  have a2:((u.setCell ⟨w.heap.size,0,none⟩ .nilIface).setCell ⟨w.heap.size+1,0,none⟩ (.bool false)).cell? ⟨w.heap.size,0,none⟩=some .nilIface:=(World.cell?_setCell_other _ _ _ _ J.symm).trans F
  refine leaves_cons (f:=395) (args:=#[.pointer (some ⟨w.heap.size+1,0,none⟩),.pointer (some ⟨w.heap.size,0,none⟩)]) (by simp) (by simp[go_sem]) ?_
  refine (tried_idle _ _ _ Q).mono ?_
  rintro e u' a0 ⟨rfl,rfl,rfl⟩
  refine⟨.tuple #[.nilIface,.bool false],?_,_,u,z,.inl ⟨rfl,rfl,rfl⟩⟩
  simp[results,Tryz.results393,go_sem,F,Q]
 .have F:(u.setCell ⟨w.heap.size,0,none⟩ (.iface T v)).cell? ⟨w.heap.size,0,none⟩=some (.iface T v):=World.cell?_setCell_same _ _ _ G
  have b1:(u.setCell ⟨w.heap.size,0,none⟩ (.iface T v)).cell? ⟨w.heap.size+1,0,none⟩=some (.bool true):=(World.cell?_setCell_other _ _ _ _ J).trans I
  refine leaves_cons (f:=395) (args:=#[.pointer (some ⟨w.heap.size+1,0,none⟩),.pointer (some ⟨w.heap.size,0,none⟩)]) (by simp) (by simp[go_sem]) ?_
  refine (tried_panic _ _ _ _ _ _ _ I G h3).mono ?_
  rintro e u' a0 ⟨rfl,rfl,rfl⟩
  refine⟨.tuple #[.iface T v,.bool true],?_,_,u,z,.inr ⟨T,v,rfl,rfl,rfl⟩⟩
  simp[results,Tryz.results393,go_sem,F,b1]
def Tried (e0 e:Ending):Prop:=
 (e0=.returned (.tuple #[])/\e=.returned (.tuple #[.nilIface,.bool false])) \/
 (∃ T v,e0=.panicked [{ v:=.iface T v,recovered:=false }] /\ e=.returned (.tuple #[.iface T v,.bool true]))
theorem try_below {K:FuncId} {first cap:Array Value} {w:World} {E:Ending->Prop} (hE:∀ e,E e->Once e)
  (hK:∀ w,(callFunc K (first ++ cap)).run Tryz.prog w=.ok (.enter K (first ++ cap)) w) (h:∀ I,Calls Tryz.prog K (first ++ cap) I fun e w'=>E e/\Below I.heap.size I w') :
  Calls Tryz.prog 393 #[.func (.func K) first cap] w fun e w'=>Below w.heap.size w w' /\ ∃ z,E z/\Tried z e:=by
 refine (try_fn (fun e w' W=>?_) hK (h (tryWorld w))).mono ?_
 .refine⟨hE e W.1,?_⟩
  obtain⟨_,u⟩:=W
  have Y:(tryWorld w).heap.size=w.heap.size+2:=by simp[tryWorld]
  rw[Y] at u
  refine⟨(u.cell (by simp)).trans ?_,(u.cell (by simp)).trans ?_,(u.frozen (by simp)).trans ?_,(u.frozen (by simp)).trans ?_⟩ <;> simp[tryWorld]
 .rintro e w' ⟨z,w0,⟨Q,u⟩,ht⟩
  have Y:(tryWorld w).heap.size=w.heap.size+2:=by simp[tryWorld]
  have J:Below w.heap.size w w0:=by
   refine Below.trans (b:=tryWorld w) ?_ (u.mono (by omega))
   exact ((Below.refl w.heap.size w).alloc (Nat.le_refl _) _).alloc (by simp) _
  rcases ht with ⟨F,G,rfl⟩ | ⟨T,v,F,G,rfl⟩
  .exact⟨(J.setCell (Nat.le_refl _) _).setCell (Nat.le_succ _) _,z,Q,.inl ⟨F,G⟩⟩
  .exact⟨J.setCell (Nat.le_refl _) _,z,Q,.inr ⟨T,v,F,G⟩⟩
def failed (c:Int):Ending:=.panicked [{ v:=.iface 433 (.agg #[.int .i64 c]),recovered:=false }]
theorem must_fail (c:Int) (hc:c≠0) (w:World):Calls Tryz.prog 389 #[.int .i64 c] w fun e w'=>e=failed c/\w=w':=by
 have h:(c != 0)=true:=by simpa using hc
 go_enter Tryz.func389,Tryz.ntmps389
 go_wp2_with fail
 exact⟨rfl,rfl,rfl⟩
theorem assert_yes (v:Value) (w:World):(Instr.typeAssert (.iface 433 v) 20 433 true).run Tryz.prog w=.ok (.tuple #[v,.bool true]) w:=by
 simp[Instr.typeAssert,run_underlying Tryz.underlying433]
theorem assert_no (T:TypeId) (h:T≠433) (v:Value) (w:World):(Instr.typeAssert (.iface T v) 20 433 true).run Tryz.prog w=.ok (.tuple #[.agg #[.int .i64 0],.bool false]) w:=by
 have u:(zeroValue 433).run Tryz.prog w=.ok (.agg #[.int .i64 0]) w:=by kernel_rfl
 simp[Instr.typeAssert,run_underlying Tryz.underlying433,h,u]
def Code' (e0:Ending) (n:Int):Prop:=
 (e0=.returned (.tuple #[])/\n=0)\/(∃ c,c≠0/\e0=failed c/\n=c)\/(∃ T v,T≠433/\e0=.panicked [{ v:=.iface T v,recovered:=false }] /\ n=18)
theorem Code'.once {e:Ending} {n:Int} (h:Code' e n):Once e:=by
 rcases h with ⟨h,_⟩ | ⟨c,_,h,_⟩ | ⟨T,v,_,h,_⟩
 .exact .inl h
 .exact .inr ⟨_,_,h⟩
 .exact .inr ⟨_,_,h⟩
theorem catch_below {K:FuncId} {first cap:Array Value} {w:World} {n:Int} (F:∀ w,(callFunc K (first ++ cap)).run Tryz.prog w=.ok (.enter K (first ++ cap)) w)
  (h:∀ z,Calls Tryz.prog K (first ++ cap) z fun e w'=>Code' e n/\Below z.heap.size z w') :
  Calls Tryz.prog 387 #[.func (.func K) first cap] w fun e w'=>e=.returned (.int .i64 n)/\Below w.heap.size w w':=by
 go_enter Tryz.func387,Tryz.ntmps387
 go_wp2_with fail
 refine (try_below (fun e J=>J.once) F h).mono ?_
 rintro e w' ⟨u,Y,hc,Q⟩
 rcases Q with ⟨rfl,rfl⟩ | ⟨T,v,rfl,rfl⟩
 .obtain rfl:n=0:=by
   rcases hc with ⟨_,h⟩ | ⟨c,_,h,_⟩ | ⟨T,v,_,h,_⟩
   .exact h
   .cases h
   .cases h
  go_wp2_with fail
  go_ret
  exact⟨rfl,u⟩
 .rcases hc with ⟨q,_⟩ | ⟨c,I,q,rfl⟩ | ⟨W,v',G,q,rfl⟩
  .cases q
  .simp only[failed,Ending.panicked.injEq,List.cons.injEq,PanicEntry.mk.injEq,Value.iface.injEq,and_true] at q
   obtain⟨rfl,rfl⟩:=q
   have h1:(n != 0)=true:=by simpa using I
   have ha:=assert_yes (.agg #[.int .i64 n])
   go_wp2_with fail
   go_ret
   exact⟨rfl,u.alloc u.size _⟩
  .simp only[Ending.panicked.injEq,List.cons.injEq,PanicEntry.mk.injEq,Value.iface.injEq,and_true] at q
   obtain⟨rfl,rfl⟩:=q
   have ha:=assert_no T G v
   go_wp2_with fail
   go_ret
   exact⟨rfl,u.alloc u.size _⟩
end Go.Proofs.YtoiklelghfckgaaGreatDoor.Gd
namespace Go.Proofs.YtoiklelghfckgaaGreatDoor.Gd
open Go.ChangeShapes Go.WideShapes Go.ChangeAt Go.RowKit Rw
theorem Awake6_any (w:World) :
  Calls Tryz.prog 386 #[] w fun e w'=>e=.returned (.bool true)/\Below w.heap.size w w':=by
 go_enter Tryz.func386,Tryz.ntmps386
 go_wp2_with fail
 refine (Fl.awake6_any _).mono ?_
 rintro e w' ⟨rfl,h⟩
 go_wp2_with fail
 go_ret
 exact⟨rfl,h⟩
theorem closed_any (w:World):Calls Tryz.prog 388 #[] w fun e w'=>Code' e 6/\Below w.heap.size w w':=by
 go_enter Tryz.func388,Tryz.ntmps388
 go_wp2_with fail
 refine (must_fail 6 (by decide) _).mono ?_
 rintro e w' ⟨rfl,rfl⟩
 exact⟨rfl,.inr (.inl ⟨6,by decide,rfl,rfl⟩),Below.refl _ _⟩
theorem awake7_any (w:World) :
  Calls Tryz.prog 383 #[] w fun e w'=>e=.returned (.bool true)/\Below w.heap.size w w':=by
 go_enter Tryz.func383,Tryz.ntmps383
 go_wp2_with fail
 refine (Awake6_any _).mono ?_
 rintro e u ⟨rfl,h⟩
 go_wp2_with fail
 refine (catch_below (K:=388) (first:=#[]) (cap:=#[]) (n:=6) (fun w=>by simp[go_sem]) (fun u=>by rw[Array.append_empty]; exact closed_any u)).mono ?_
 rintro e F ⟨rfl,z⟩
 go_wp2_with fail
 go_ret
 exact⟨rfl,h.trans (z.mono h.size)⟩
theorem Awake7_any (w:World) :
  Calls Tryz.prog 379 #[] w fun e w'=>e=.returned (.bool true)/\Below w.heap.size w w':=by
 go_enter Tryz.func379,Tryz.ntmps379
 go_wp2_with fail
 refine (awake7_any _).mono ?_
 rintro e w' ⟨rfl,h⟩
 go_wp2_with fail
 go_ret
 exact⟨rfl,h⟩
end Go.Proofs.YtoiklelghfckgaaGreatDoor.Gd
namespace Go.Proofs.YtoiklelghfckgaaGreatDoor.Si
open Go.ChangeShapes Go.WideShapes Go.ChangeAt Go.RowKit Rw Sn
theorem info_int:(Tryz.prog.info? 3).map (fun i=>(i.zero,i.size,i.bytes))=some (some (.int .i64 0),1,8):=by kernel_rfl
theorem take_eq_snoc {xs u:List Int} {k:Nat} {x:Int} (h:xs.take k=u.take k) (hx:xs[k]? = some x) (z:u[k]? = some x):xs.take (k+1)=u.take (k+1):=by rw[take_snoc hx,take_snoc z,h]
theorem ne_of_at {xs u:List Int} {k:Nat} {x y:Int} (hx:xs[k]? = some x) (h:u[k]? = some y) (z:x≠y):xs≠u:=fun e=>by subst e; rw[hx] at h; injection h with h; exact z h
theorem equal_any (A A':Option Addr) (n c m Y:Nat) (xs F:List Int) (B B':Nat) (w:World) (h:Rd (Value.int .i64) w B A n c xs) (u:Rd (Value.int .i64) w B' A' m Y F) :
  Calls Tryz.prog 380 #[.slice A n c,.slice A' m Y] w fun e w'=>e=.returned (.bool (decide (xs=F))) /\ ∃ q,w.drewN q=w':=by
 have hn:n<=9223372036854775807:=by have:=h.cap; have:=h.top; omega
 have hm:m<=9223372036854775807:=by have:=u.cap; have:=u.top; omega
 have I:=Lh h.len
 have J:=Lh u.len
 have HR:=Lh h
 have a1:=Lh u
 clear h u
 by_cases hnm:n=m
 .subst hnm
  go_enter Tryz.func380,Tryz.ntmps380
  go_wp2
  go_loopw [5,13] (fun _ i wr=>∃ k q:Nat,k<=n/\i=.int .i64 k/\wr=w.drewN q/\xs.take k=F.take k) (fun _ i _=>n - (intOf i).toNat)
  case atStart=>exact⟨0,0,Nat.zero_le _,rfl,rfl,rfl⟩
  case round=>
   obtain⟨k,q,hk,rfl,rfl,a0⟩:=hrel
   have G:=Lh a0
   clear a0
   by_cases hlt:k < n
   .obtain⟨b,o,x,rfl,hb,hx,a4⟩:=HR.out.get hlt
    obtain⟨b',o',y,rfl,a2,hy,a5⟩:=a1.out.get hlt
    have Q:=Lh hx
    have W:=Lh hy
    clear hx hy
    by_cases hxy:x=y
    .subst hxy
     go_wp2
     go_quiet (fail)
     go_wp2
     go_roundw
     case rel=>exact⟨k+1,_,by omega,by go_num,rfl,take_eq_snoc G.out Q.out W.out⟩
     case measure=>simp[intOf]; omega
    .have hq:(x != y)=true:=by simpa using hxy
     have z:=Lh hxy
     clear hxy
     go_wp2
     go_quiet (fail)
     go_wp2
     go_ret
     exact⟨by rw[decide_eq_false (ne_of_at Q.out W.out z.out)]; rfl,_,(World.drewN_drewN _ _ _).symm⟩
   .have a6:k=n:=by omega
    go_wp2
    go_ret
    refine⟨?_,_,rfl⟩
    have e:=G.out
    have hl:=I.out
    have a7:=J.out
    rw[List.take_of_length_le (by omega),List.take_of_length_le (by omega)] at e
    rw[decide_eq_true e]
    rfl
 .have hb:((n:Int) != (m:Int))=true:=by rw[bne_iff_ne]; omega
  have a3:(n != m)=true:=by simpa using hnm
  have z:=Lh hnm
  clear hnm
  go_enter Tryz.func380,Tryz.ntmps380
  go_wp2
  go_ret
  exact⟨by rw[decide_eq_false (fun e=>z.out (by rw[<- I.out,<- J.out,e]))]; rfl,0,rfl⟩
theorem one_int (y:Int):(Value.int .i64 y).oneCell'=true:=rfl
theorem clone_any (A:Option Addr) (n c:Nat) (xs:List Int) (B:Nat) (w:World) (h:Rd (Value.int .i64) w B A n c xs) (G:B<=w.heap.size) (a1:n * 8<=140737488355328) :
  Calls Tryz.prog 384 #[.slice A n c] w fun e w'=>∃ A' z,e=.returned (.slice A' n z)/\w'.ownsRow w.heap.size 3 1 (.slice A' n z) n (xs.map (Value.int .i64))/\Below w.heap.size w w':=by
 have hn:n<=9223372036854775807:=by have:=h.cap; have:=h.top; omega
 obtain⟨i0,hi,Q,W,Y⟩:=info_parts info_int
 cases A with
 | none=>
  have u:n=0:=by
   rcases Nat.eq_zero_or_pos n with u | u
   .exact u
   .obtain⟨b,o,e,_⟩:=h.at_ u
    cases e
  subst u
  obtain rfl:=List.eq_nil_of_length_eq_zero h.len
  clear h
  have hk:=@Lib.run_eql_slice_nil Tryz.prog
  go_enter Tryz.func384,Tryz.ntmps384
  go_wp2
  go_ret
  exact⟨_,_,rfl,World.ownsRow_nil _ _ _ _,Below.refl _ _⟩
 | some a=>
  have F:=Lh h
  clear h
  have hk:=@Lib.run_eql_slice_nil Tryz.prog
  go_enter Tryz.func384,Tryz.ntmps384
  go_wp2_with (at_builtin; refine apRd _ rfl _ _ 325 rfl w.heap.size 3 i0 (.int .i64 0) 8 Tryz.underlying325 hi Q W Y rfl _ 0 [] rfl (World.ownsRow_lit _ #[] 0 (Nat.le_refl _) (by decide) rfl) B (some a) n c xs rfl (F.out.alloc G _) one_int n (Nat.zero_add _) (xs.map (Value.int .i64)) rfl ?_ ?_ ?_ ?_)
  .unfold maxLen; omega
  .omega
  .simp
  .intro A' z w' J I a0
   go_wp2
   go_ret
   refine⟨A',z,rfl,J,((Below.refl _ _).alloc (Nat.le_refl _) _).grown I (by simp) (fun k hk=>?_)⟩
   simp[Value.ownBlock] at hk
   omega
end Go.Proofs.YtoiklelghfckgaaGreatDoor.Si
namespace Go.Proofs.YtoiklelghfckgaaGreatDoor.Pi
open Go.ChangeShapes Go.WideShapes Go.ChangeAt Go.RowKit Rw
def Ok (x:Int):Prop:=-9223372036854775808<=x/\x<=9223372036854775807
structure Pk (w:World) (g:Nat) (l:List Int) (t:Int):Prop where
 script:∃ A n c,w.cell? ⟨g,0,none⟩=some (.slice A n c)/\Rd (Value.int .i64) w g A n c l
 turn:w.cell? ⟨g,1,none⟩=some (.int .i64 t)
 free0:w.frozen? ⟨g,0,none⟩=false
 free1:w.frozen? ⟨g,1,none⟩=false
 lo:∀ x∈l,Ok x
theorem Pk.lt {w:World} {g:Nat} {l:List Int} {t:Int} (h:Pk w g l t):g < w.heap.size:=Lw.ltH h.turn
theorem Pk.below {w w':World} {g B:Nat} {l:List Int} {t:Int} (h:Pk w g l t) (u:Below B w w') (z:g < B):Pk w' g l t:=by
 obtain⟨A,n,c,F,G⟩:=h.script
 exact⟨⟨A,n,c,(u.cell (p:=⟨g,0,none⟩) z).trans F,G.keep fun p I=>u.cell (by omega)⟩,(u.cell (p:=⟨g,1,none⟩) z).trans h.turn,(u.frozen (p:=⟨g,0,none⟩) z).trans h.free0,(u.frozen (p:=⟨g,1,none⟩) z).trans h.free1,h.lo⟩
theorem Pk.later {w w':World} {g:Nat} {l:List Int} {t:Int} (h:Pk w g l t) (u:Below w.heap.size w w'):Pk w' g l t:=h.below u h.lt
theorem emod_tmod (a n:Int) (hn:1<=n):(0<=a.tmod n/\a % n=a.tmod n)\/(a.tmod n < 0/\a % n=a.tmod n+n):=by
 have h:=Int.tmod_eq_emod (a:=a) (b:=n)
 have u:=Int.emod_nonneg a (b:=n) (by omega)
 have z:=Int.emod_lt_of_pos a (b:=n) (by omega)
 split at h
 .left; omega
 .right; omega
theorem modulo_any (a n:Int) (hn:1<=n) (I:n<=9223372036854775807) (w:World) :
  Calls Tryz.prog 390 #[.int .i64 a,.int .i64 n] w fun e w'=>e=.returned (.int .i64 (a % n))/\w=w':=by
 have u:=Int.emod_nonneg a (b:=n) (by omega)
 have z:=Int.emod_lt_of_pos a (b:=n) (by omega)
 have J:(n == 0)=false:=by simp; omega
 have G:(n == -1)=false:=by simp; omega
 rcases emod_tmod a n hn with ⟨h,e⟩ | ⟨h,e⟩
 .rw[e] at u z ⊢
  have F:decide (a.tmod n < 0)=false:=decide_eq_false (by omega)
  go_enter Tryz.func390,Tryz.ntmps390
  go_wp2_with fail
  go_ret
  exact⟨rfl,rfl⟩
 .rw[e] at u z ⊢
  have F:decide (a.tmod n < 0)=true:=decide_eq_true h
  go_enter Tryz.func390,Tryz.ntmps390
  go_wp2_with fail
  go_ret
  exact⟨rfl,rfl⟩
theorem gsC (w:World) (a:Addr) (u:Value):w.grownBy (w.setCell a u) (some a.block):=
 ⟨rfl,rfl,rfl,by simp,fun k _ hk=>heap_setCell_other w a k u (fun e=>hk (by rw[e]))⟩
theorem Pk.put0 {w:World} {g:Nat} {L l:List Int} {t:Int} (h:Pk w g L t) (A:Option Addr) (n c:Nat) (G:Rd (Value.int .i64) w g A n c l) (z:∀ x∈l,Ok x) :
  Pk (w.setCell ⟨g,0,none⟩ (.slice A n c)) g l t/\w.grownBy (w.setCell ⟨g,0,none⟩ (.slice A n c)) (some g):=by
 obtain⟨I,Q,c0,u,J⟩:=h.script
 have F:(⟨g,0,none⟩:Addr)≠⟨g,1,none⟩:=fun e=>by injection e with _ e; omega
 refine⟨⟨⟨A,n,c,World.cell?_setCell_same _ _ _ u,G.setCell (Nat.le_refl _) _⟩,(World.cell?_setCell_other _ _ _ _ F).trans h.turn,?_,?_,z⟩,gsC _ _ _⟩
 .simpa using h.free0
 .simpa using h.free1
theorem Pk.put1 {w:World} {g:Nat} {l:List Int} {t:Int} (h:Pk w g l t) (u:Int) :
  Pk (w.setCell ⟨g,1,none⟩ (.int .i64 u)) g l u/\w.grownBy (w.setCell ⟨g,1,none⟩ (.int .i64 u)) (some g):=by
 obtain⟨A,n,c,z,G⟩:=h.script
 have F:(⟨g,1,none⟩:Addr)≠⟨g,0,none⟩:=fun e=>by injection e with _ e; omega
 refine⟨⟨⟨A,n,c,(World.cell?_setCell_other _ _ _ _ F).trans z,G.setCell (Nat.le_refl _) _⟩,World.cell?_setCell_same _ _ _ h.turn,?_,?_,h.lo⟩,gsC _ _ _⟩
 .simpa using h.free0
 .simpa using h.free1
def tk:List Int->Int->Int × List Int × Int
 | [],t=>(t,[],t+1)
 | x :: l,t=>(x,l,t)
theorem take_some (g:Nat) (x:Int) (l:List Int) (t:Int) (w:World) (h:Pk w g (x :: l) t) :
  Calls Tryz.prog 391 #[.pointer (some ⟨g,0,none⟩)] w fun e w'=>e=.returned (.int .i64 x)/\Pk w' g l t/\w.grownBy w' (some g):=by
 obtain⟨A,n,c,W,u⟩:=h.script
 have hn:(x :: l).length=n:=u.len
 simp at hn
 have a2:=u.cap
 have a4:=u.top
 obtain⟨b,o,y,rfl,F,hx,J⟩:=u.get (k:=0) (by omega)
 obtain rfl:x=y:=by simpa using hx
 have hp:decide ((0:Int) < (n:Int))=true:=decide_eq_true (by omega)
 have a3:decide (0 < n)=true:=decide_eq_true (by omega)
 have a0:=h.free0
 have I:=Lh u
 have z:=Lh h
 have hl:=h.lt
 have a1:1<=n:=by omega
 simp only[Nat.add_zero] at J
 have Q:=Lh hn
 clear h u hx hn
 by_cases hc1:c=1
 .subst hc1
  obtain rfl:n=1:=by omega
  go_enter Tryz.func391,Tryz.ntmps391
  go_wp2_with fail
  go_ret
  have F:=(I.out.back (i:=1) (A':=some ⟨b,o,none⟩) (by omega) rfl (by omega))
  exact⟨rfl,z.out.put0 _ _ _ F (fun y G=>z.out.lo y (List.mem_cons_of_mem _ G))⟩
 .have Y:1 < c:=by omega
  go_enter Tryz.func391,Tryz.ntmps391
  go_wp2_with fail
  go_ret
  have F:=(I.out.back (i:=1) (A':=some ⟨b,o+1,none⟩) (by omega) rfl (fun _=>rfl))
  exact⟨rfl,z.out.put0 _ _ _ F (fun y G=>z.out.lo y (List.mem_cons_of_mem _ G))⟩
theorem take_none (g:Nat) (t:Int) (w:World) (h:Pk w g [] t) (W:0<=t/\t < 9223372036854775807) :
  Calls Tryz.prog 391 #[.pointer (some ⟨g,0,none⟩)] w fun e w'=>e=.returned (.int .i64 t)/\Pk w' g [] (t+1)/\w.grownBy w' (some g):=by
 obtain⟨A,n,c,G,u⟩:=h.script
 obtain rfl:0=n:=u.len
 have I:=h.turn
 have J:=h.free1
 have Q:=h.lt
 have F:=Lh u
 have z:=Lh h
 clear h u
 go_enter Tryz.func391,Tryz.ntmps391
 go_wp2_with fail
 go_ret
 exact⟨rfl,z.out.put1 _⟩
theorem next_some (g:Nat) (x:Int) (l:List Int) (t n:Int) (hn:1<=n) (J:n<=9223372036854775807) (w:World) (h:Pk w g (x :: l) t) :
  Calls Tryz.prog 385 #[.pointer (some ⟨g,0,none⟩),.int .i64 n] w fun e w'=>e=.returned (.tuple #[.int .i64 (x % n),.bool true])/\Pk w' g l t/\w.grownBy w' (some g):=by
 have Q:decide (n < 1)=false:=decide_eq_false (by omega)
 have I:=Lh h
 clear h
 go_enter Tryz.func385,Tryz.ntmps385
 go_wp2_with fail
 refine (take_some g x l t _ I.out).mono ?_
 rintro e W ⟨rfl,u,z⟩
 have F:=Lh u
 have G:=Lh z
 clear u z
 go_wp2_with fail
 refine (modulo_any x n hn J _).mono ?_
 rintro e Y ⟨rfl,rfl⟩
 go_wp2_with fail
 exact bodyPost_ret (v:=.tuple #[.int .i64 (x % n),.bool true]) (by simp[results,Tryz.results385,go_sem]) rfl ⟨rfl,F.out,G.out⟩
theorem next_none (g:Nat) (t n:Int) (hn:1<=n) (W:n<=9223372036854775807) (w:World) (h:Pk w g [] t) (F:0<=t/\t < 9223372036854775807) :
  Calls Tryz.prog 385 #[.pointer (some ⟨g,0,none⟩),.int .i64 n] w fun e w'=>e=.returned (.tuple #[.int .i64 (t % n),.bool true])/\Pk w' g [] (t+1)/\w.grownBy w' (some g):=by
 have Y:decide (n < 1)=false:=decide_eq_false (by omega)
 have J:=Lh h
 have Q:=Lh F
 clear h F
 go_enter Tryz.func385,Tryz.ntmps385
 go_wp2_with fail
 refine (take_none g t _ J.out Q.out).mono ?_
 rintro e w1 ⟨rfl,u,z⟩
 have G:=Lh u
 have I:=Lh z
 clear u z
 go_wp2_with fail
 refine (modulo_any t n hn W _).mono ?_
 rintro e w2 ⟨rfl,rfl⟩
 go_wp2_with fail
 exact bodyPost_ret (v:=.tuple #[.int .i64 (t % n),.bool true]) (by simp[results,Tryz.results385,go_sem]) rfl ⟨rfl,G.out,I.out⟩
theorem next_any (g:Nat) (l:List Int) (t n:Int) (hn:1<=n) (u:n<=9223372036854775807) (w:World) (h:Pk w g l t) (z:0<=t/\t < 9223372036854775807) :
  Calls Tryz.prog 385 #[.pointer (some ⟨g,0,none⟩),.int .i64 n] w fun e w'=>e=.returned (.tuple #[.int .i64 ((tk l t).1 % n),.bool true])/\Pk w' g (tk l t).2.1 (tk l t).2.2/\w.grownBy w' (some g):=by
 cases l with
 | nil=>exact next_none g t n hn u w h z
 | cons x l=>exact next_some g x l t n hn u w h
theorem new_any (A:Option Addr) (n c:Nat) (l:List Int) (B:Nat) (w:World) (h:Rd (Value.int .i64) w B A n c l) (hB:B<=w.heap.size) (I:∀ x∈l,Ok x) (a1:n * 8<=140737488355328) :
  Calls Tryz.prog 381 #[.slice A n c] w fun e w'=>∃ g,e=.returned (.pointer (some ⟨g,0,none⟩))/\Pk w' g l 0/\w.heap.size<=g/\Below w.heap.size w w':=by
 have Y:=Lh h
 have W:=Lh I
 clear h I
 go_enter Tryz.func381,Tryz.ntmps381
 go_wp2_with fail
 refine (Si.clone_any A n c l B _ Y.out hB a1).mono ?_
 rintro e z ⟨F,c1,rfl,Q,G⟩
 have J:Rd (Value.int .i64) z z.heap.size F n c1 l:=Rd.own_rd Q
 have a0:=Lh J
 have u:=Lh G
 clear Q J G
 go_wp2_with fail
 go_ret
 refine⟨z.heap.size,rfl,⟨⟨F,n,c1,by go_simp,a0.out.alloc (Nat.le_refl _) _⟩,by go_simp,by go_simp,by go_simp,W.out⟩,u.out.size,u.out.alloc u.out.size _⟩
theorem Pk.grown {w w':World} {g:Nat} {l:List Int} {t:Int} {row:Option Nat} (h:Pk w g l t) (u:w.grownBy w' row) (G:∀ j,row=some j->g < j):Pk w' g l t:=by
 have F:=h.lt
 obtain⟨A,n,c,I,Q⟩:=h.script
 have z:some g≠row:=by intro e; have:=G g e.symm; omega
 refine⟨⟨A,n,c,u.cell I z,?_⟩,u.cell h.turn z,gfz u h.free0 F z,gfz u h.free1 F z,h.lo⟩
 exact Q.grown u (by omega) (fun j J=>by have:=G j J; omega)
def val (l:List Int) (t:Int) (k:Nat):Int:=if h:k < l.length then l[k] else t+((k - l.length:Nat):Int)
theorem tk_drop (l:List Int) (t:Int) (k:Nat):tk (l.drop k) (t+((k - l.length:Nat):Int))=(val l t k,l.drop (k+1),t+((k+1 - l.length:Nat):Int)):=by
 unfold val
 by_cases h:k < l.length
 .rw[List.drop_eq_getElem_cons h,dif_pos h]
  have z:k - l.length=0:=by omega
  have u:k+1 - l.length=0:=by omega
  simp[tk,z,u]
 .rw[List.drop_eq_nil_of_le (by omega),List.drop_eq_nil_of_le (by omega),dif_neg h]
  have u:k+1 - l.length=(k - l.length)+1:=by omega
  simp only[tk,u]
  congr 2
  push_cast
  omega
def outs (l:List Int) (t n:Int) (k:Nat):List Int:=(List.range k).map fun j=>val l t j % n
theorem outs_succ (l:List Int) (t n:Int) (k:Nat):outs l t n (k+1)=outs l t n k ++ [val l t k % n]:=by
 unfold outs; rw[List.range_succ,List.map_append]; rfl
theorem some_any (g:Nat) (l:List Int) (t n:Int) (k:Nat) (hn:1<=n) (aj:n<=9223372036854775807) (hk:k<=10000) (w:World) (h:Pk w g l t) (ht:0<=t) (ar:t+k<=9223372036854775807) :
  Calls Tryz.prog 382 #[.pointer (some ⟨g,0,none⟩),.int .i64 n,.int .i64 k] w fun e w'=>∃ A' u,e=.returned (.slice A' k u) /\
   w'.ownsRow w.heap.size 3 1 (.slice A' k u) k ((outs l t n k).map (Value.int .i64))/\Pk w' g (l.drop k) (t+((k - l.length:Nat):Int))/\w.grownBy w' (some g):=by
 obtain⟨i0,hi,ak,al,an⟩:=info_parts Si.info_int
 have hm:min (k:Int) 10000=k:=by omega
 have hl:=h.lt
 have HH:=Lh h
 clear h
 go_enter Tryz.func382,Tryz.ntmps382
 go_wp2_with fail
 go_loopw [7,12] (fun v i wr=>∃ (m u:Nat) (A':Option Addr),m<=k/\i=.int .i64 m/\v=.slice A' m u /\
   wr.ownsRow w.heap.size 3 1 (.slice A' m u) m ((outs l t n m).map (Value.int .i64))/\Pk wr g (l.drop m) (t+((m - l.length:Nat):Int))/\w.grownBy wr (some g)) (fun _ i _=>k - (intOf i).toNat)
 case atStart=>exact⟨0,0,none,Nat.zero_le _,rfl,rfl,World.ownsRow_nil _ _ _ _,by simpa using HH.out,World.grownBy.refl _ _⟩
 case round=>
  obtain⟨m,u,A',ao,rfl,rfl,a8,a4,hg⟩:=hrel
  clear HH
  have F:=Lh a8
  have I:=Lh a4
  have G:=Lh hg
  clear a8 a4 hg
  by_cases hlt:m < k
  .go_wp2_with fail
   refine (next_any g (l.drop m) _ n hn aj _ I.out ⟨by omega,by omega⟩).mono ?_
   rw[tk_drop]
   rintro e z ⟨rfl,a5,Q⟩
   have a3:(Value.slice A' m u).ownBlock≠some g:=by
    intro e
    have:=(F.out.lt g e).1
    omega
   have a9:z.ownsRow w.heap.size 3 1 (.slice A' m u) m ((outs l t n m).map (Value.int .i64)):=F.out.kept Q (by
    cases hv:(Value.slice A' m u).ownBlock with
    | none=>exact .inl rfl
    | some j=>exact .inr (fun e=>a3 (by rw[hv]; exact e)))
   have J:=Lh a9
   have a0:=Lh (G.out.trans Q)
   have ae:=Lh a5
   have aq:=a0.out.size
   have a2:(outs l t n m).map (Value.int .i64) ++ [val l t m % n].map (Value.int .i64)=(outs l t n (m+1)).map (Value.int .i64):=by rw[outs_succ,List.map_append]
   have ad:=Lh a2
   generalize val l t m % n=y at *
   have a7:Rd (Value.int .i64) (z.alloc (.cells #[.int .i64 y] 3)) (z.heap.size+1) (some ⟨z.heap.size,0,none⟩) 1 1 [y]:=rd_one z y 3
   have ag:=Lh a7
   clear a9 a5 Q a2 a7 a3 F I G
   go_wp2_with (
    at_builtin
    refine apRd _ rfl _ _ 325 rfl w.heap.size 3 i0 (.int .i64 0) 8 Tryz.underlying325 hi ak al an rfl _ m _ rfl (J.out.alloc _) _ _ 1 1 [y] rfl ag.out Si.one_int (m+1) rfl _ ad.out (by unfold maxLen; omega) (by omega) (by simp; omega) ?_
    intro A3 c3 w3 aa W ai
    have ah:=Lh aa
    have a6:Pk w3 g (l.drop (m+1)) (t+((m+1 - l.length:Nat):Int)):=(ae.out.later ((Below.refl _ _).alloc (Nat.le_refl _) _)).grown W (fun j Y=>by have:=(J.out.lt j Y).1; omega)
    have a1:w.grownBy w3 (some g):=(a0.out.trans (World.grownBy_alloc _ _ _)).andThen W (fun j Y=>.inl (J.out.lt j Y).1)
    have af:=Lh a6
    have ac:=Lh a1
    clear aa a6 W a1 ai)
   go_roundw
   case rel=>exact⟨m+1,c3,A3,by omega,by go_num,rfl,ah.out,af.out,ac.out⟩
   case measure=>simp[intOf]; omega
  .obtain rfl:m=k:=by omega
   go_wp2_with fail
   go_ret
   exact⟨_,_,rfl,F.out,I.out,G.out⟩
theorem rd_lit {w:World} {xs:List Int} {n:Nat} (hn:xs.length=n) (h:n<=9223372036854775807) (t:TypeId) {cs:Array Value} (hc:cs=(xs.map (Value.int .i64)).toArray):Rd (Value.int .i64) (w.alloc (.cells cs t)) (w.heap.size+1) (some ⟨w.heap.size,0,none⟩) n n xs:=by
 subst hc
 refine⟨hn,Nat.le_refl _,h,fun _=>⟨w.heap.size,0,rfl,by omega,fun j x hx=>?_⟩⟩
 simp[hx]
theorem equal_true (A A':Option Addr) (n c m u:Nat) (z zs:List Int) (B B':Nat) (w:World) (h:Rd (Value.int .i64) w B A n c z) (F:Rd (Value.int .i64) w B' A' m u zs) (J:z=zs) :
  Calls Tryz.prog 380 #[.slice A n c,.slice A' m u] w fun e w'=>e=.returned (.bool true)/\Below w.heap.size w w':=
 (Si.equal_any A A' n c m u z zs B B' w h F).mono fun e w' ⟨G,q,I⟩=>⟨by rw[G,decide_eq_true J],I ▸ bdN (Below.refl _ _) q⟩
theorem awake8_any (w:World) :
  Calls Tryz.prog 376 #[] w fun e w'=>e=.returned (.bool true)/\Below w.heap.size w w':=by
 go_enter Tryz.func376,Tryz.ntmps376
 go_wp2_with fail
 refine (Gd.Awake7_any _).mono ?_
 rintro e w1 ⟨rfl,h⟩
 go_wp2_with fail
 refine (new_any _ 2 2 [7,-1] _ _ (rd_lit (xs:=[7,-1]) rfl (by simp) _ rfl) (by simp) (by intro x hx; unfold Ok; simp at hx; omega) (by omega)).mono ?_
 rintro e w2 ⟨g,rfl,Q,I,F⟩
 have u:Below w.heap.size w w2:=(h.alloc h.size _).trans (F.mono (by have:=h.size; simp; omega))
 have a1:=F.size
 have a2:w.heap.size<=g:=by have:=h.size; simp at I; omega
 clear h F I a1
 go_wp2_with fail
 refine (some_any g [7,-1] 0 3 6 (by omega) (by omega) (by omega) _ Q (by omega) (by omega)).mono ?_
 rintro e w3 ⟨A3,c3,rfl,W,a0,J⟩
 have G:outs [7,-1] 0 3 6=[1,2,0,1,2,0]:=by decide
 rw[G] at W
 have z:Below w.heap.size w w3:=u.grown J u.size (fun j hj=>by cases hj; exact a2)
 clear Q a0 J G u
 go_wp2_with fail
 refine (equal_true _ _ _ _ _ _ [1,2,0,1,2,0] [1,2,0,1,2,0] _ _ _ ((Rd.own_rd W).alloc (Nat.le_refl _) _) (rd_lit (xs:=[1,2,0,1,2,0]) rfl (by simp) _ rfl) rfl).mono ?_
 rintro e w4 ⟨rfl,Y⟩
 go_wp2_with fail
 go_ret
 refine⟨rfl,(z.alloc z.size _).trans (Y.mono (by have:=z.size; simp; omega))⟩
theorem Awake8_any (w:World) :
  Calls Tryz.prog 374 #[] w fun e w'=>e=.returned (.bool true)/\Below w.heap.size w w':=by
 go_enter Tryz.func374,Tryz.ntmps374
 go_wp2_with fail
 refine (awake8_any _).mono ?_
 rintro e w' ⟨rfl,h⟩
 go_wp2_with fail
 go_ret
 exact⟨rfl,h⟩
end Go.Proofs.YtoiklelghfckgaaGreatDoor.Pi
namespace Go.Proofs.YtoiklelghfckgaaGreatDoor.Tx
open Go.ChangeShapes Go.WideShapes Go.ChangeAt Go.RowKit Rw Go.Shelf Go.Sort
def txF (k:Nat):Nat:=if k=129 then 288 else if k=171 then 296 else if k=243 then 303 else if k=246 then 312 else if k=283 then 313 else if k=284 then 314 else if k=285 then 315 else if k=286 then 316 else if k=317 then 322 else if k=318 then 323 else if k=319 then 324 else if k=320 then 325 else if k=337 then 333 else if k=338 then 334 else if k=156 then 300 else if k=165 then 307 else if k=166 then 308 else if k=169 then 309 else if k=240 then 319 else if k=241 then 320 else if k=276 then 330 else if k=277 then 331 else 0
def txT (k:Nat):Nat:=if k=0 then 0 else if k=2 then 2 else if k=3 then 3 else if k=4 then 4 else if k=5 then 5 else if k=9 then 9 else if k=20 then 20 else if k=37 then 22 else if k=46 then 137 else if k=51 then 334 else if k=53 then 25 else if k=171 then 362 else if k=173 then 364 else if k=212 then 368 else if k=213 then 369 else if k=232 then 382 else if k=233 then 391 else if k=31 then 97 else if k=70 then 353 else if k=72 then 355 else if k=75 then 358 else if k=76 then 359 else if k=127 then 366 else if k=164 then 375 else if k=80 then 71 else 0
def txG (k:Nat):Nat:=if k=17 then 2 else if k=18 then 5 else if k=19 then 6 else 0
def txRen:Ren:={ f:=txF,t:=txT,g:=txG }
theorem txItoa:LaysM.n171 Tryz.prog txRen:={
 mixed:=by kernel_rfl
 f129:=by kernel_rfl
 f171:=by kernel_rfl
 f243:=by kernel_rfl
 f246:=by kernel_rfl
 f283:=by kernel_rfl
 f284:=by kernel_rfl
 f285:=by kernel_rfl
 f286:=by kernel_rfl
 f317:=by kernel_rfl
 f318:=by kernel_rfl
 f319:=by kernel_rfl
 f320:=by kernel_rfl
 f337:=by kernel_rfl
 f338:=by kernel_rfl
 t0:=by kernel_rfl
 a0:=fun w=>by kernel_rfl
 z0:=fun w=>by kernel_rfl
 v0:=fun w=>by kernel_rfl
 t2:=by kernel_rfl
 a2:=fun w=>by kernel_rfl
 z2:=fun w=>by kernel_rfl
 v2:=fun w=>by kernel_rfl
 t3:=by kernel_rfl
 a3:=fun w=>by kernel_rfl
 z3:=fun w=>by kernel_rfl
 v3:=fun w=>by kernel_rfl
 t4:=by kernel_rfl
 a4:=fun w=>by kernel_rfl
 z4:=fun w=>by kernel_rfl
 v4:=fun w=>by kernel_rfl
 t5:=by kernel_rfl
 a5:=fun w=>by kernel_rfl
 z5:=fun w=>by kernel_rfl
 v5:=fun w=>by kernel_rfl
 t9:=by kernel_rfl
 a9:=fun w=>by kernel_rfl
 z9:=fun w=>by kernel_rfl
 v9:=fun w=>by kernel_rfl
 t20:=by kernel_rfl
 a20:=fun w=>by kernel_rfl
 z20:=fun w=>by kernel_rfl
 v20:=fun w=>by kernel_rfl
 t37:=by kernel_rfl
 a37:=fun w=>by kernel_rfl
 z37:=fun w=>by kernel_rfl
 v37:=fun w=>by kernel_rfl
 t46:=by kernel_rfl
 a46:=fun w=>by kernel_rfl
 z46:=fun w=>by kernel_rfl
 v46:=fun w=>by kernel_rfl
 t51:=by kernel_rfl
 a51:=fun w=>by kernel_rfl
 z51:=fun w=>by kernel_rfl
 v51:=fun w=>by kernel_rfl
 t53:=by kernel_rfl
 a53:=fun w=>by kernel_rfl
 z53:=fun w=>by kernel_rfl
 v53:=fun w=>by kernel_rfl
 t171:=by kernel_rfl
 a171:=fun w=>by kernel_rfl
 z171:=fun w=>by kernel_rfl
 v171:=fun w=>by kernel_rfl
 t173:=by kernel_rfl
 a173:=fun w=>by kernel_rfl
 z173:=fun w=>by kernel_rfl
 v173:=fun w=>by kernel_rfl
 t212:=by kernel_rfl
 a212:=fun w=>by kernel_rfl
 z212:=fun w=>by kernel_rfl
 v212:=fun w=>by kernel_rfl
 t213:=by kernel_rfl
 a213:=fun w=>by kernel_rfl
 z213:=fun w=>by kernel_rfl
 t232:=by kernel_rfl
 a232:=fun w=>by kernel_rfl
 z232:=fun w=>by kernel_rfl
 v232:=fun w=>by kernel_rfl
 t233:=by kernel_rfl
 a233:=fun w=>by kernel_rfl
 z233:=fun w=>by kernel_rfl
 v233:=fun w=>by kernel_rfl
 g17:=by kernel_rfl
 g18:=by kernel_rfl
 g19:=by kernel_rfl
 i0:=by kernel_rfl
 i2:=by kernel_rfl
 i3:=by kernel_rfl
 i4:=by kernel_rfl
 i5:=by kernel_rfl
 i9:=by kernel_rfl
 i20:=by kernel_rfl
 i37:=by kernel_rfl
 i46:=by kernel_rfl
 i51:=by kernel_rfl
 i53:=by kernel_rfl
 i171:=by kernel_rfl
 i173:=by kernel_rfl
 i212:=by kernel_rfl
 i232:=by kernel_rfl
 i233:=by kernel_rfl
 m17:=by kernel_rfl
 m18:=by kernel_rfl
 m19:=by kernel_rfl }
theorem txJoin:Lays.n156 Tryz.prog txRen:={
 mixed:=by kernel_rfl
 f156:=by kernel_rfl
 f165:=by kernel_rfl
 f166:=by kernel_rfl
 f169:=by kernel_rfl
 f240:=by kernel_rfl
 f241:=by kernel_rfl
 f276:=by kernel_rfl
 f277:=by kernel_rfl
 t0:=by kernel_rfl
 a0:=fun w=>by kernel_rfl
 z0:=fun w=>by kernel_rfl
 v0:=fun w=>by kernel_rfl
 t3:=by kernel_rfl
 a3:=fun w=>by kernel_rfl
 z3:=fun w=>by kernel_rfl
 v3:=fun w=>by kernel_rfl
 t4:=by kernel_rfl
 a4:=fun w=>by kernel_rfl
 z4:=fun w=>by kernel_rfl
 v4:=fun w=>by kernel_rfl
 t9:=by kernel_rfl
 a9:=fun w=>by kernel_rfl
 z9:=fun w=>by kernel_rfl
 v9:=fun w=>by kernel_rfl
 t20:=by kernel_rfl
 a20:=fun w=>by kernel_rfl
 z20:=fun w=>by kernel_rfl
 v20:=fun w=>by kernel_rfl
 t31:=by kernel_rfl
 a31:=fun w=>by kernel_rfl
 z31:=fun w=>by kernel_rfl
 v31:=fun w=>by kernel_rfl
 t37:=by kernel_rfl
 a37:=fun w=>by kernel_rfl
 z37:=fun w=>by kernel_rfl
 v37:=fun w=>by kernel_rfl
 t70:=by kernel_rfl
 a70:=fun w=>by kernel_rfl
 z70:=fun w=>by kernel_rfl
 v70:=fun w=>by kernel_rfl
 t72:=by kernel_rfl
 a72:=fun w=>by kernel_rfl
 z72:=fun w=>by kernel_rfl
 v72:=fun w=>by kernel_rfl
 t75:=by kernel_rfl
 a75:=fun w=>by kernel_rfl
 z75:=fun w=>by kernel_rfl
 v75:=fun w=>by kernel_rfl
 t76:=by kernel_rfl
 a76:=fun w=>by kernel_rfl
 z76:=fun w=>by kernel_rfl
 v76:=fun w=>by kernel_rfl
 t127:=by kernel_rfl
 a127:=fun w=>by kernel_rfl
 z127:=fun w=>by kernel_rfl
 v127:=fun w=>by kernel_rfl
 t164:=by kernel_rfl
 a164:=fun w=>by kernel_rfl
 z164:=fun w=>by kernel_rfl
 v164:=fun w=>by kernel_rfl }
theorem txExtra:Builder.Extra Tryz.prog txRen:={
 sizeBuilder:=by kernel_rfl
 liesBuilder:=by kernel_rfl
 t5:=by kernel_rfl
 a5:=fun w=>by kernel_rfl
 z5:=fun w=>by kernel_rfl
 v5:=fun w=>by kernel_rfl
 infoByte:=by kernel_rfl
 cellsByte:=by kernel_rfl
 sizeByte:=by kernel_rfl
 neB5:=by decide +kernel }
def Tab (w:World):Prop:=Lib.TabIs Tryz.prog w "internal/strconv.uint64pow10" .u64 Lib.pow10Tab
theorem Tab.below {w w':World} (h:Tab w) (z:Below w.heap.size w w'):Tab w':=by
 unfold Tab Lib.TabIs World.var? at *
 cases hg:Tryz.prog.globalNamed "internal/strconv.uint64pow10" with
 | none=>simp[hg] at h
 | some g=>
  simp only[hg,Option.bind_some] at h ⊢
  have F:g < w.heap.size:=by
   rcases Nat.lt_or_ge g w.heap.size with u | u
   .exact u
   .rw[Array.getElem?_eq_none u] at h; simp at h
  rw[z.block g F]
  exact h
theorem below_grow (w:World) (k:Nat) (os:Array Obj):Below w.heap.size w (grow (w.drewN k) os):=
 ⟨rfl,rfl,rfl,by simp,fun j h=>heap_grow_old (w.drewN k) os h⟩
def bts (l:List UInt8):ByteArray:=⟨l.toArray⟩
theorem itoa_any (n:Int) (u:-9223372036854775808<=n) (z:n<=9223372036854775807) (w:World) (F:Tab w) :
  Calls Tryz.prog 296 #[.int .i64 n] w fun e w'=>e=.returned (.string (bts (Lib.itoa n)))/\Below w.heap.size w w':=
 (Any.strconv_Itoa txItoa n u z w F).mono fun e w' ⟨h,k,os,hw⟩=>⟨h,hw ▸ below_grow w k os⟩
theorem fu_any (u:Nat) (J:u < 18446744073709551616) (w:World) (hT:Tab w) :
  Calls Tryz.prog 304 #[.int .u64 u,.int .i64 10] w fun e w'=>e=.returned (.string (bts (Lib.itoa u)))/\Below w.heap.size w w':=by
 by_cases hs:u < 100
 .have hd:decide ((u:Int) < 100)=true:=decide_eq_true (by omega)
  go_enter Tryz.func304,Tryz.ntmps304
  go_wp2_with fail
  refine (Any.internal_strconv_small (P:=Tryz.prog) (ρ:=txRen) { txItoa with } u hs _).mono ?_
  rintro e w' ⟨rfl,rfl⟩
  go_wp2_with fail
  go_ret
  exact⟨by rw[Lib.itoa_nonneg]; rfl,Below.refl _ _⟩
 .have a0:1<=u:=by omega
  have hd:decide ((u:Int) < 100)=false:=decide_eq_false (by omega)
  have a6:Lib.nDigits u<=20:=by have:=Lib.numDigits_eq u a0 J; split at this <;> omega
  have a3:Lib.nDigits u<=24:=by omega
  have Q:Tryz.prog.arrayLen 362=24:=by kernel_rfl
  have a7:∀ W,(Instr.sliceAt 362 (.pointer (some ⟨w.heap.size,0,none⟩)) none (some (.int .i64 (Lib.nDigits u:Int))) none).run Tryz.prog W=.ok (.slice (some ⟨w.heap.size,0,none⟩) (Lib.nDigits u) 24) W:=fun W=>by
   rw[run_sliceAt_array_h W 362 ⟨w.heap.size,0,none⟩ (by simp[Program.arrayLen,Program.elem,Tryz.underlying362]) .i64 (Lib.nDigits u:Int) (by omega) (by rw[Q]; omega)]
   go_simp
  have I:Holds (fun (b:UInt8)=>Value.int .u8 (b.toNat:Int)) (w.alloc (.cells Lib.zeros24 362)) w.heap.size 0 (Array.replicate (Lib.nDigits u) (0:UInt8)):=fun j z=>by
   have a5:j < Lib.nDigits u:=by simpa using z
   refine⟨?_,World.frozen?_alloc_new _ _ _ _⟩
   rw[World.cell?_alloc_new,Nat.zero_add,Lib.zeros24_at j (by omega),getElem!_pos _ j z]
   simp
  have Y:=Any.internal_strconv_formatBase10 (P:=Tryz.prog) (ρ:=txRen) { txItoa with } w.heap.size 0 24 u (Array.replicate (Lib.nDigits u) 0) (w.alloc (.cells Lib.zeros24 362)) I (by rw[Array.size_replicate]; exact Lib.lt_pow_nDigits u) J (by rw[Array.size_replicate]; omega)
  rw[Array.size_replicate] at Y
  have a1:=Lh I
  clear I Q
  go_enter Tryz.func304,Tryz.ntmps304
  go_wp2_with fail
  refine (Any.internal_strconv_numDigits (P:=Tryz.prog) (ρ:=txRen) { txItoa with } u a0 J _ (Lib.tabIs_alloc hT _)).mono ?_
  rintro e w' ⟨rfl,rfl⟩
  go_wp2_with fail
  refine Y.mono ?_
  rintro e w' ⟨rfl,k,v',F,rfl,G⟩
  have a4:(convert 22 9 (.slice (some ⟨w.heap.size,0,none⟩) (Lib.nDigits u) 24)).run Tryz.prog ((putRow (fun (b:UInt8)=>Value.int .u8 (b.toNat:Int)) (w.alloc (.cells Lib.zeros24 362)) w.heap.size 0 F).drewN k)=.ok (.string ⟨(Lib.decDigits u).toArray⟩) ((putRow (fun (b:UInt8)=>Value.int .u8 (b.toNat:Int)) (w.alloc (.cells Lib.zeros24 362)) w.heap.size 0 F).drewN k):=by
   have h:=run_convert_bytes_back (P:=Tryz.prog) ((putRow (fun (b:UInt8)=>Value.int .u8 (b.toNat:Int)) (w.alloc (.cells Lib.zeros24 362)) w.heap.size 0 F).drewN k) 22 9 5 ⟨w.heap.size,0,none⟩ 24 (Lib.decDigits u) Tryz.underlying22 Tryz.underlying5 Tryz.underlying9 (fun j z=>by
    rw[Lib.row_is_numeral G j z,Lib.add_plain,World.cell?_drewN]
    exact cell?_putRow (fun (b:UInt8)=>Value.int .u8 (b.toNat:Int)) _ w.heap.size 0 _ F a1.out (by rw[G.size,Array.size_replicate]) j (by rw[G.size]; rw[Lib.decDigits_length] at z; exact z))
   rw[Lib.decDigits_length] at h
   exact h
  go_wp2
  go_ret
  refine⟨by rw[Lib.itoa_nonneg]; rfl,?_⟩
  obtain⟨a2,_,e⟩:=putRow_grow_new (fun (b:UInt8)=>Value.int .u8 (b.toNat:Int)) w #[.cells Lib.zeros24 362] w.heap.size 0 F (Nat.le_refl _)
  rw[alloc_eq_grow,e]
  exact below_grow w k a2
theorem funit_any (n:Int) (G:0<=n) (I:n<=18446744073709551615) (w:World) (h:Tab w) :
  Calls Tryz.prog 297 #[.int .u64 n,.int .i64 10] w fun e w'=>e=.returned (.string (bts (Lib.itoa n)))/\Below w.heap.size w w':=by
 obtain⟨u,rfl⟩:∃ u:Nat,n=u:=⟨n.toNat,by omega⟩
 have F:u < 18446744073709551616:=by omega
 go_enter Tryz.func297,Tryz.ntmps297
 go_wp2_with fail
 refine (fu_any u F _ h).mono ?_
 rintro e w' ⟨rfl,z⟩
 go_wp2_with fail
 go_ret
 exact⟨rfl,z⟩
def pickw (n:Int) (ws:List ByteArray):ByteArray:=if n < 0 then bts [63] else ws.getD n.toNat (bts [63])
theorem named_any (n:Int) (A:Option Addr) (m c:Nat) (z:List ByteArray) (B:Nat) (w:World) (h:Rd Value.string w B A m c z) :
  Calls Tryz.prog 378 #[.int .i64 n,.slice A m c] w fun e w'=>e=.returned (.string (pickw n z))/\w=w':=by
 have F:=h.len
 by_cases h0:n < 0
 .have I:decide (n < 0)=true:=decide_eq_true h0
  have u:pickw n z=bts [63]:=by unfold pickw; rw[if_pos h0]
  rw[u]
  have G:=Lh h
  clear h F u
  go_enter Tryz.func378,Tryz.ntmps378
  go_wp2_with fail
  go_ret
  exact⟨rfl,rfl⟩
 .obtain⟨k,rfl⟩:∃ k:Nat,n=k:=⟨n.toNat,by omega⟩
  have I:decide ((k:Int) < 0)=false:=decide_eq_false h0
  by_cases h1:k < m
  .have J:decide ((m:Int)<=(k:Int))=false:=decide_eq_false (by omega)
   obtain⟨b,o,x,rfl,Q,hx,hc⟩:=h.get h1
   have u:pickw k z=x:=by unfold pickw; rw[if_neg h0]; simp[hx]
   rw[u]
   have G:=Lh h
   clear h F u hx h0
   go_enter Tryz.func378,Tryz.ntmps378
   go_wp2_with fail
   go_ret
   exact⟨rfl,rfl⟩
  .have J:decide ((m:Int)<=(k:Int))=true:=decide_eq_true (by omega)
   have u:pickw k z=bts [63]:=by unfold pickw; rw[if_neg h0]; simp[List.getElem?_eq_none (show z.length<=k by omega)]
   rw[u]
   have G:=Lh h
   clear h F u h0
   go_enter Tryz.func378,Tryz.ntmps378
   go_wp2_with fail
   go_ret
   exact⟨rfl,rfl⟩
theorem line_any (A:Option Addr) (m c:Nat) (u:List ByteArray) (w:World) (h:Rd Value.string w w.heap.size A m c u) (W:0 < m)
  (F:(Lib.join (u.map (·.data.toList)) [32]).length<=140737488355328) (a0:m<=100) :
  Calls Tryz.prog 377 #[.slice A m c] w fun e w'=>e=.returned (.string (bts (Lib.join (u.map (·.data.toList)) [32])))/\Below w.heap.size w w':=by
 obtain⟨b,o,rfl,I,hc⟩:=h.at_ W
 have z:=h.len
 have Y:=h.cap
 have J:=Any.strings_Join (P:=Tryz.prog) (ρ:=txRen) txJoin txExtra b o c u (bts [32]) w hc I (by omega) (by omega) F
 rw[z] at J
 have G:=Lh J
 clear J h hc z F
 go_enter Tryz.func377,Tryz.ntmps377
 go_wp2_with fail
 refine G.out.mono ?_
 rintro e w' ⟨rfl,Q⟩
 go_wp2_with fail
 go_ret
 exact⟨rfl,Q⟩
structure Ev where
 step:Int
 thread:Int
 kind:Int
 op:Int
 id:Int
 err:Int
deriving DecidableEq
def encE (e:Ev):List Value:=[.int .u64 e.step,.int .i64 e.thread,.int .i64 e.kind,.int .i64 e.op,.int .u64 e.id,.int .i64 e.err]
def Ev.val (e:Ev):Value:=.agg #[.int .u64 e.step,.int .i64 e.thread,.int .i64 e.kind,.int .i64 e.op,.int .u64 e.id,.int .i64 e.err]
def I64 (x:Int):Prop:=-9223372036854775808<=x/\x<=9223372036854775807
def U64 (x:Int):Prop:=0<=x/\x<=18446744073709551615
structure Ev.ok (e:Ev):Prop where
 step:U64 e.step
 thread:I64 e.thread
 kind:I64 e.kind
 op:I64 e.op
 id:U64 e.id
 err:I64 e.err
def kws:List ByteArray:=[bts [99,97,108,108],bts [112,111,105,110,116],bts [97,110,115,119,101,114],bts [114,101,116,105,114,101]]
def ows:List ByteArray:=[bts [103,101,116],bts [112,117,116],bts [101,118,105,99,116],bts [99,108,111,115,101],bts [104,111,117,115,101]]
def six (e:Ev):List ByteArray:=[bts (Lib.itoa e.step),bts (Lib.itoa e.thread),pickw e.kind kws,pickw e.op ows,bts (Lib.itoa e.id),bts (Lib.itoa e.err)]
def txt (e:Ev):ByteArray:=bts (Lib.join ((six e).map (·.data.toList)) [32])
theorem itoa_le (n:Int) (F:-9223372036854775808<=n) (G:n<=18446744073709551615):(Lib.itoa n).length<=21:=by
 have key:∀ u:Nat,u < 18446744073709551616->Lib.nDigits u<=20:=by
  intro u z
  rcases Nat.eq_zero_or_pos u with rfl | h
  .rw[<- Lib.decDigits_length]; simp[Lib.decDigits]
  .have:=Lib.numDigits_eq u h z
   split at this <;> omega
 by_cases hneg:n < 0
 .obtain⟨u,rfl⟩:∃ u:Nat,n = -(u:Int):=⟨n.natAbs,by omega⟩
  rw[Lib.itoa_neg u (by omega),List.length_cons,Lib.decDigits_length]
  have:=key u (by omega)
  omega
 .obtain⟨u,rfl⟩:∃ u:Nat,n=u:=⟨n.toNat,by omega⟩
  rw[Lib.itoa_nonneg,Lib.decDigits_length]
  have:=key u (by omega)
  omega
theorem pickw_le (n:Int) (u:List ByteArray) (h:∀ x∈u,x.data.toList.length<=10):(pickw n u).data.toList.length<=10:=by
 unfold pickw
 split
 .decide
 .rw[List.getD_eq_getElem?_getD]
  cases hx:u[n.toNat]? with
  | none=>decide
  | some x=>exact h x (List.mem_of_getElem? hx)
theorem txt_le (e:Ev) (h:e.ok):(Lib.join ((six e).map (·.data.toList)) [32]).length<=140737488355328:=by
 have u:=itoa_le e.step (by have:=h.step.1; omega) h.step.2
 have z:=itoa_le e.thread h.thread.1 (by have:=h.thread.2; omega)
 have F:=itoa_le e.id (by have:=h.id.1; omega) h.id.2
 have G:=itoa_le e.err h.err.1 (by have:=h.err.2; omega)
 have I:=pickw_le e.kind kws (by decide)
 have J:=pickw_le e.op ows (by decide)
 simp only[six,List.map_cons,List.map_nil,Lib.join_cons,Lib.joinTail,List.flatten_cons,List.flatten_nil,List.length_append,List.length_cons,List.length_nil,bts] at *
 omega
def Six (g:Nat) (e:Ev) (w:World):Prop:=
 w.cell? ⟨g,0,none⟩=some (.int .u64 e.step)/\w.cell? ⟨g,1,none⟩=some (.int .i64 e.thread)/\w.cell? ⟨g,2,none⟩=some (.int .i64 e.kind) /\
 w.cell? ⟨g,3,none⟩=some (.int .i64 e.op)/\w.cell? ⟨g,4,none⟩=some (.int .u64 e.id)/\w.cell? ⟨g,5,none⟩=some (.int .i64 e.err)
theorem Six.below {g:Nat} {e:Ev} {w w':World} (h:Six g e w) (u:Below w.heap.size w w'):Six g e w':=
 ⟨(u.cell (p:=⟨g,0,none⟩) (Lw.ltH h.1)).trans h.1,(u.cell (p:=⟨g,1,none⟩) (Lw.ltH h.2.1)).trans h.2.1,(u.cell (p:=⟨g,2,none⟩) (Lw.ltH h.2.2.1)).trans h.2.2.1,
  (u.cell (p:=⟨g,3,none⟩) (Lw.ltH h.2.2.2.1)).trans h.2.2.2.1,(u.cell (p:=⟨g,4,none⟩) (Lw.ltH h.2.2.2.2.1)).trans h.2.2.2.2.1,(u.cell (p:=⟨g,5,none⟩) (Lw.ltH h.2.2.2.2.2)).trans h.2.2.2.2.2⟩
theorem rd_strs {w:World} {xs:List ByteArray} {n:Nat} (hn:xs.length=n) (h:n<=9223372036854775807) (t:TypeId) {cs:Array Value} (hc:cs=(xs.map Value.string).toArray):Rd Value.string (w.alloc (.cells cs t)) (w.heap.size+1) (some ⟨w.heap.size,0,none⟩) n n xs:=by
 subst hc
 refine⟨hn,Nat.le_refl _,h,fun _=>⟨w.heap.size,0,rfl,by omega,fun j x hx=>?_⟩⟩
 simp[hx]
def tT (e:Ev):Nat->Value->World->Prop
 | 2,v,_=>v=.string (bts (Lib.itoa e.step))
 | 5,v,_=>v=.string (bts (Lib.itoa e.thread))
 | 8,v,w=>∃ A c,v=.slice A 4 c/\Rd Value.string w w.heap.size A 4 c kws
 | 9,v,_=>v=.string (pickw e.kind kws)
 | 12,v,w=>∃ A c,v=.slice A 5 c/\Rd Value.string w w.heap.size A 5 c ows
 | 13,v,_=>v=.string (pickw e.op ows)
 | 16,v,_=>v=.string (bts (Lib.itoa e.id))
 | 19,v,_=>v=.string (bts (Lib.itoa e.err))
 | 20,v,w=>∃ A c,v=.slice A 6 c/\Rd Value.string w w.heap.size A 6 c (six e)
 | 21,v,_=>v=.string (txt e)
 | 22,v,_=>v=.string (txt e)
 | _,_,_=>True
theorem tT_mono (e:Ev) (i:Nat) (v:Value) (w w':World) (h:tT e i v w) (F:Below w.heap.size w w'):tT e i v w':=by
 unfold tT at *
 split at h
 all_goals first
  | exact h
  | (obtain⟨A,c,u,z⟩:=h; exact⟨A,c,u,z.later F⟩)
theorem text_any (e:Ev) (h:e.ok) (w:World) (hT:Tab w) :
  Calls Tryz.prog 375 #[e.val] w fun x w'=>x=.returned (.string (txt e))/\Below w.heap.size w w':=by
 have HK:=Lh h
 have HT:=Lh hT
 clear h hT
 unfold Ev.val
 go_enter Tryz.func375,Tryz.ntmps375
 go_wp2_with fail
 have I:Six w.heap.size e ((w.alloc (.cells #[.int .u64 e.step,.int .i64 e.thread,.int .i64 e.kind,.int .i64 e.op,.int .u64 e.id,.int .i64 e.err] 146)).drew):=by
  refine⟨?_,?_,?_,?_,?_,?_⟩ <;> simp
 have b0:Below w.heap.size w (w.alloc (.cells #[.int .u64 e.step,.int .i64 e.thread,.int .i64 e.kind,.int .i64 e.op,.int .u64 e.id,.int .i64 e.err] 146)).drew:=((Below.refl _ _).alloc (Nat.le_refl _) _).drew
 refine rgS 23 (Six w.heap.size e) (by kernel_rfl) (by kernel_rfl) ?_
 intro hA
 generalize (w.alloc (.cells #[.int .u64 e.step,.int .i64 e.thread,.int .i64 e.kind,.int .i64 e.op,.int .u64 e.id,.int .i64 e.err] 146)).drew=W at *
 have Q:=Lh hA
 clear hA
 refine rq 0 Q.out I rfl ?_ (hv:=fun w' hw=>by (obtain⟨Y,G,J,h3,h4,h5⟩:=hw; go_simp; exact rfl))
 refine rq 1 Q.out I rfl ?_ (hv:=fun w' hw=>by (obtain⟨Y,G,J,h3,h4,h5⟩:=hw; go_simp; exact rfl))
 refine rq 3 Q.out I rfl ?_ (hv:=fun w' hw=>by (obtain⟨Y,G,J,h3,h4,h5⟩:=hw; go_simp; exact rfl))
 refine rq 4 Q.out I rfl ?_ (hv:=fun w' hw=>by (obtain⟨Y,G,J,h3,h4,h5⟩:=hw; go_simp; exact rfl))
 refine rq 6 Q.out I rfl ?_ (hv:=fun w' hw=>by (obtain⟨Y,G,J,h3,h4,h5⟩:=hw; go_simp; exact rfl))
 refine rq 7 Q.out I rfl ?_ (hv:=fun w' hw=>by (obtain⟨Y,G,J,h3,h4,h5⟩:=hw; go_simp; exact rfl))
 refine rq 10 Q.out I rfl ?_ (hv:=fun w' hw=>by (obtain⟨Y,G,J,h3,h4,h5⟩:=hw; go_simp; exact rfl))
 refine rq 11 Q.out I rfl ?_ (hv:=fun w' hw=>by (obtain⟨Y,G,J,h3,h4,h5⟩:=hw; go_simp; exact rfl))
 refine rq 14 Q.out I rfl ?_ (hv:=fun w' hw=>by (obtain⟨Y,G,J,h3,h4,h5⟩:=hw; go_simp; exact rfl))
 refine rq 15 Q.out I rfl ?_ (hv:=fun w' hw=>by (obtain⟨Y,G,J,h3,h4,h5⟩:=hw; go_simp; exact rfl))
 refine rq 17 Q.out I rfl ?_ (hv:=fun w' hw=>by (obtain⟨Y,G,J,h3,h4,h5⟩:=hw; go_simp; exact rfl))
 refine rq 18 Q.out I rfl ?_ (hv:=fun w' hw=>by (obtain⟨Y,G,J,h3,h4,h5⟩:=hw; go_simp; exact rfl))
 refine reg_stable [2,5,8,9,12,13,16,19,20,21,22] (fun w w'=>Below w.heap.size w w') (tT e) ?_ ?_ ?_ ?_ ?_ ?_ ?_ (fun _=>Below.refl _ _) (fun _ _ _ G J=>G.trans (J.mono G.size)) (tT_mono e) (fun _ h=>I.below h) ?_ ?_
 .kernel_rfl
 .kernel_rfl
 .kernel_rfl
 .kernel_rfl
 .kernel_rfl
 .kernel_rfl
 .kernel_rfl
 .refine⟨?_,?_,?_,?_,?_,?_,?_,?_,?_,?_,?_,trivial⟩
  .intro a' w' val F z u
   have e4:a'.tmps[4]?.getD undef=.int .u64 e.step:=(z 4 (by kernel_rfl)).trans (by kernel_rfl)
   clear z u
   refine⟨_,rfl,?_⟩
   unfold Oper.wp
   go_simp
   refine (funit_any e.step HK.out.step.1 HK.out.step.2 w' (HT.out.below (b0.trans (F.mono b0.size)))).mono ?_
   rintro x w2 ⟨rfl,a0⟩
   exact⟨_,rfl,rfl,a0⟩
  .intro a' w' val F z u
   have e7:a'.tmps[7]?.getD undef=.int .i64 e.thread:=(z 7 (by kernel_rfl)).trans (by kernel_rfl)
   clear z u
   refine⟨_,rfl,?_⟩
   unfold Oper.wp
   go_simp
   refine (itoa_any e.thread HK.out.thread.1 HK.out.thread.2 w' (HT.out.below (b0.trans (F.mono b0.size)))).mono ?_
   rintro x w2 ⟨rfl,a0⟩
   exact⟨_,rfl,rfl,a0⟩
  .intro a' w' val F z u
   clear z u
   refine⟨_,rfl,?_⟩
   unfold Oper.wp
   go_simp
   refine⟨_,rfl,⟨_,_,rfl,?_⟩,(Below.refl _ _).alloc (Nat.le_refl _) _⟩
   exact (rd_strs (xs:=kws) rfl (by simp[kws]) _ rfl).more (by simp)
  .intro a' w' val F z u
   have ao:a'.tmps[10]?.getD undef=.int .i64 e.kind:=(z 10 (by kernel_rfl)).trans (by kernel_rfl)
   obtain⟨q8,s8⟩:=u 8 (by decide) (by kernel_rfl)
   have a2:=s8 11 (by kernel_rfl)
   clear z u
   obtain⟨A,c,hv,hr⟩:∃ A c,val 8=.slice A 4 c/\Rd Value.string w' w'.heap.size A 4 c kws:=q8
   rw[hv] at a2
   refine⟨_,rfl,?_⟩
   unfold Oper.wp
   go_simp
   refine (named_any e.kind A 4 c kws _ w' hr).mono ?_
   rintro x w2 ⟨rfl,rfl⟩
   exact⟨_,rfl,rfl,Below.refl _ _⟩
  .intro a' w' val F z u
   clear z u
   refine⟨_,rfl,?_⟩
   unfold Oper.wp
   go_simp
   refine⟨_,rfl,⟨_,_,rfl,?_⟩,(Below.refl _ _).alloc (Nat.le_refl _) _⟩
   exact (rd_strs (xs:=ows) rfl (by simp[ows]) _ rfl).more (by simp)
  .intro a' w' val F z u
   have aq:a'.tmps[14]?.getD undef=.int .i64 e.op:=(z 14 (by kernel_rfl)).trans (by kernel_rfl)
   obtain⟨aa,ah⟩:=u 12 (by decide) (by kernel_rfl)
   have a4:=ah 15 (by kernel_rfl)
   clear z u
   obtain⟨A,c,hv,hr⟩:∃ A c,val 12=.slice A 5 c/\Rd Value.string w' w'.heap.size A 5 c ows:=aa
   rw[hv] at a4
   refine⟨_,rfl,?_⟩
   unfold Oper.wp
   go_simp
   refine (named_any e.op A 5 c ows _ w' hr).mono ?_
   rintro x w2 ⟨rfl,rfl⟩
   exact⟨_,rfl,rfl,Below.refl _ _⟩
  .intro a' w' val F z u
   have ar:a'.tmps[18]?.getD undef=.int .u64 e.id:=(z 18 (by kernel_rfl)).trans (by kernel_rfl)
   clear z u
   refine⟨_,rfl,?_⟩
   unfold Oper.wp
   go_simp
   refine (funit_any e.id HK.out.id.1 HK.out.id.2 w' (HT.out.below (b0.trans (F.mono b0.size)))).mono ?_
   rintro x w2 ⟨rfl,a0⟩
   exact⟨_,rfl,rfl,a0⟩
  .intro a' w' val F z u
   have au:a'.tmps[21]?.getD undef=.int .i64 e.err:=(z 21 (by kernel_rfl)).trans (by kernel_rfl)
   clear z u
   refine⟨_,rfl,?_⟩
   unfold Oper.wp
   go_simp
   refine (itoa_any e.err HK.out.err.1 HK.out.err.2 w' (HT.out.below (b0.trans (F.mono b0.size)))).mono ?_
   rintro x w2 ⟨rfl,a0⟩
   exact⟨_,rfl,rfl,a0⟩
  .intro a' w' val F z u
   obtain⟨q2,s2⟩:=u 2 (by decide) (by kernel_rfl)
   have e5:=s2 5 (by kernel_rfl)
   obtain⟨q5,s5⟩:=u 5 (by decide) (by kernel_rfl)
   have e8:=s5 8 (by kernel_rfl)
   obtain⟨q9,s9⟩:=u 9 (by decide) (by kernel_rfl)
   have a3:=s9 12 (by kernel_rfl)
   obtain⟨ac,ai⟩:=u 13 (by decide) (by kernel_rfl)
   have a5:=ai 16 (by kernel_rfl)
   obtain⟨ad,aj⟩:=u 16 (by decide) (by kernel_rfl)
   have a6:=aj 19 (by kernel_rfl)
   obtain⟨ae,ak⟩:=u 19 (by decide) (by kernel_rfl)
   have a1:=ak 22 (by kernel_rfl)
   clear z u
   rw[show val 2=.string (bts (Lib.itoa e.step)) from q2] at e5
   rw[show val 5=.string (bts (Lib.itoa e.thread)) from q5] at e8
   rw[show val 9=.string (pickw e.kind kws) from q9] at a3
   rw[show val 13=.string (pickw e.op ows) from ac] at a5
   rw[show val 16=.string (bts (Lib.itoa e.id)) from ad] at a6
   rw[show val 19=.string (bts (Lib.itoa e.err)) from ae] at a1
   refine⟨_,rfl,?_⟩
   unfold Oper.wp
   go_simp
   refine⟨_,rfl,⟨_,_,rfl,?_⟩,(Below.refl _ _).alloc (Nat.le_refl _) _⟩
   exact (rd_strs (xs:=six e) rfl (by simp[six]) _ rfl).more (by simp)
  .intro a' w' val F z u
   obtain⟨af,al⟩:=u 20 (by decide) (by kernel_rfl)
   have a7:=al 23 (by kernel_rfl)
   clear z u
   obtain⟨A,c,hv,hr⟩:∃ A c,val 20=.slice A 6 c/\Rd Value.string w' w'.heap.size A 6 c (six e):=af
   rw[hv] at a7
   refine⟨_,rfl,?_⟩
   unfold Oper.wp
   go_simp
   refine (line_any A 6 c (six e) w' hr (by omega) (txt_le e HK.out) (by omega)).mono ?_
   rintro x w2 ⟨rfl,a0⟩
   exact⟨_,rfl,rfl,a0⟩
  .intro a' w' val F z u
   obtain⟨ag,an⟩:=u 21 (by decide) (by kernel_rfl)
   have a8:=an 24 (by kernel_rfl)
   clear z u
   rw[show val 21=.string (txt e) from ag] at a8
   refine⟨_,rfl,?_⟩
   unfold Oper.wp
   go_simp
   exact⟨_,rfl,rfl,Below.refl _ _⟩
 intro val w' hE F
 obtain⟨p2,p5,p8,p9,av,aw,ax,ay,az,aA,a9,-⟩:=hE
 have a1:val 22=.string (txt e):=a9
 simp only[puts,dstOf]
 go_simp
 go_wp2_with fail
 go_ret
 exact⟨rfl,b0.trans (F.mono b0.size)⟩
end Go.Proofs.YtoiklelghfckgaaGreatDoor.Tx
namespace Go.Proofs.YtoiklelghfckgaaGreatDoor.Hi
open Go.ChangeShapes Go.WideShapes Go.ChangeAt Go.RowKit Rw Tx
theorem encE_len (e:Ev):(encE e).length=6:=rfl
theorem encE_one (e:Ev):∀ u∈encE e,u.oneCell'=true:=by
 intro u h
 simp[encE] at h
 rcases h with rfl | rfl | rfl | rfl | rfl | rfl <;> rfl
theorem info_ev:(Tryz.prog.info? 146).map (fun i=>(i.zero,i.size,i.bytes))=some (some (.agg #[.int .u64 0,.int .i64 0,.int .i64 0,.int .i64 0,.int .u64 0,.int .i64 0]),6,48):=by kernel_rfl
structure Hs (w:World) (B p:Nat) (r:Option Nat) (s:Int) (l:List Ev):Prop where
 step:w.cell? ⟨p,0,none⟩=some (.int .u64 s)
 evs:∃ A c,w.cell? ⟨p,1,none⟩=some (.slice A l.length c)/\w.ownsRow B 146 6 (.slice A l.length c) l.length (flat encE l)/\(Value.slice A l.length c).ownBlock=r
 free0:w.frozen? ⟨p,0,none⟩=false
 free1:w.frozen? ⟨p,1,none⟩=false
 lo:B<=p
 ne:r≠some p
theorem Hs.lt {w:World} {B p:Nat} {r:Option Nat} {s:Int} {l:List Ev} (h:Hs w B p r s l):p < w.heap.size:=Lw.ltH h.step
theorem Hs.row {w:World} {B p:Nat} {r:Option Nat} {s:Int} {l:List Ev} (h:Hs w B p r s l):∀ g,r=some g->B<=g/\g < w.heap.size:=by
 intro g u
 obtain⟨A,c,_,z,e⟩:=h.evs
 exact z.lt g (e.trans u)
theorem Hs.same {w w':World} {B p:Nat} {r:Option Nat} {s:Int} {l:List Ev} (h:Hs w B p r s l) (F:w'.heap[p]? = w.heap[p]?) (Q:∀ g,r=some g->w'.heap[g]? = w.heap[g]?):Hs w' B p r s l:=by
 obtain⟨A,c,G,I,u⟩:=h.evs
 have hc:∀ o,w'.cell? ⟨p,o,none⟩=w.cell? ⟨p,o,none⟩:=fun o=>by unfold World.cell?; simp only[F]
 have z:∀ o,w'.frozen? ⟨p,o,none⟩=w.frozen? ⟨p,o,none⟩:=fun o=>by unfold World.frozen?; simp only[F]
 exact⟨(hc 0).trans h.step,⟨A,c,(hc 1).trans G,owS I (fun g J=>Q g (u.symm.trans J)),u⟩,(z 0).trans h.free0,(z 1).trans h.free1,h.lo,h.ne⟩
theorem Hs.later {w w':World} {B p:Nat} {r:Option Nat} {s:Int} {l:List Ev} (h:Hs w B p r s l) (u:Below w.heap.size w w'):Hs w' B p r s l:=
 h.same (u.block p h.lt) (fun g z=>u.block g (h.row g z).2)
theorem Hs.rs {w:World} {B p:Nat} {r:Option Nat} {s:Int} {l:List Ev} (h:Hs w B p r s l):∃ A c,w.cell? ⟨p,1,none⟩=some (.slice A l.length c)/\Rs encE 6 w w.heap.size A l.length c l:=by
 obtain⟨A,c,u,z,_⟩:=h.evs
 exact⟨A,c,u,Rs.own_rs encE_len rfl z⟩
theorem new_any (w:World) (B:Nat) (h:B<=w.heap.size) :
  Calls Tryz.prog 62 #[] w fun e w'=>∃ p,e=.returned (.pointer (some ⟨p,0,none⟩))/\Hs w' B p none 0 [] /\ w.heap.size<=p/\Below w.heap.size w w':=by
 go_enter Tryz.func62,Tryz.ntmps62
 go_wp2_with fail
 go_ret
 refine⟨w.heap.size,rfl,⟨by go_simp,⟨none,0,by go_simp,World.ownsRow_nil _ _ _ _,rfl⟩,by go_simp,by go_simp,h,by simp⟩,Nat.le_refl _,(Below.refl _ _).alloc (Nat.le_refl _) _⟩
theorem Hs.put0 {w:World} {B p:Nat} {r:Option Nat} {s:Int} {l:List Ev} (h:Hs w B p r s l) (u:Int) :
  Hs (w.setCell ⟨p,0,none⟩ (.int .u64 u)) B p r u l/\Fr (some p) r w (w.setCell ⟨p,0,none⟩ (.int .u64 u)):=by
 obtain⟨A,c,F,G,z⟩:=h.evs
 refine⟨⟨World.cell?_setCell_same _ _ _ h.step,⟨A,c,(World.cell?_setCell_other _ _ _ _ (fun e=>by injection e with _ e; omega)).trans F,owS G (fun g I=>heap_setCell_other w _ g _ (fun e=>h.ne (by rw[<- z,I,show g=p from e]))),z⟩,by simpa using h.free0,by simpa using h.free1,h.lo,h.ne⟩,Fr.of_grown (gsC _ _ _) (.inr (.inl rfl))⟩
theorem advance_any (w:World) (B p:Nat) (r:Option Nat) (s:Int) (l:List Ev) (h:Hs w B p r s l) (G:0<=s/\s < 18446744073709551615) :
  Calls Tryz.prog 373 #[.pointer (some ⟨p,0,none⟩)] w fun e w'=>e=.returned (.int .u64 (s+1))/\Hs w' B p r (s+1) l/\Fr (some p) r w w':=by
 have z:=h.step
 have f0:=h.free0
 have F:=h.lt
 have u:=Lh h
 clear h
 go_enter Tryz.func373,Tryz.ntmps373
 go_wp2_with fail
 go_ret
 exact⟨rfl,u.out.put0 _⟩
theorem eclone_any (A:Option Addr) (n c:Nat) (xs:List Ev) (B:Nat) (w:World) (h:Rs encE 6 w B A n c xs) (G:B<=w.heap.size) (a1:n * 48<=140737488355328) :
  Calls Tryz.prog 54 #[.slice A n c] w fun e w'=>∃ A' z,e=.returned (.slice A' n z)/\w'.ownsRow w.heap.size 146 6 (.slice A' n z) n (flat encE xs)/\Below w.heap.size w w':=by
 have hn:n<=9223372036854775807:=by have:=h.cap; have:=h.top; omega
 obtain⟨i0,hi,Q,W,Y⟩:=info_parts info_ev
 cases A with
 | none=>
  have u:n=0:=by
   rcases Nat.eq_zero_or_pos n with u | u
   .exact u
   .obtain⟨b,o,e,_⟩:=h.at_ u
    cases e
  subst u
  obtain rfl:=List.eq_nil_of_length_eq_zero h.len
  clear h
  have hk:=@Lib.run_eql_slice_nil Tryz.prog
  go_enter Tryz.func54,Tryz.ntmps54
  go_wp2
  go_ret
  exact⟨_,_,rfl,World.ownsRow_nil _ _ _ _,Below.refl _ _⟩
 | some a=>
  have F:=Lh h
  clear h
  have hk:=@Lib.run_eql_slice_nil Tryz.prog
  go_enter Tryz.func54,Tryz.ntmps54
  go_wp2_with (at_builtin; refine apRs encE_len rfl _ _ 90 rfl w.heap.size 146 i0 _ 48 Tryz.underlying90 hi Q W Y rfl (by omega) _ 0 [] rfl (World.ownsRow_lit _ #[] 0 (Nat.le_refl _) (by decide) rfl) B (some a) n c xs rfl (F.out.alloc G _) encE_one n (Nat.zero_add _) (flat encE xs) rfl ?_ ?_ ?_ ?_)
  .unfold maxLen; omega
  .omega
  .simp
  .intro A' z w' J I a0
   go_wp2
   go_ret
   refine⟨A',z,rfl,J,((Below.refl _ _).alloc (Nat.le_refl _) _).grown I (by simp) (fun k hk=>?_)⟩
   simp[Value.ownBlock] at hk
   omega
theorem all_any (w:World) (B p:Nat) (r:Option Nat) (s:Int) (l:List Ev) (h:Hs w B p r s l) (J:l.length * 48<=140737488355328) :
  Calls Tryz.prog 27 #[.pointer (some ⟨p,0,none⟩)] w fun e w'=>∃ A c,e=.returned (.slice A l.length c)/\w'.ownsRow w.heap.size 146 6 (.slice A l.length c) l.length (flat encE l)/\Below w.heap.size w w':=by
 obtain⟨A,c,Y,z⟩:=h.rs
 have G:=Lh z
 clear h z
 generalize hn:l.length=n at *
 have W:=Lh hn
 clear hn
 go_enter Tryz.func27,Tryz.ntmps27
 go_wp2_with fail
 refine (eclone_any A n c l _ w G.out (Nat.le_refl _) J).mono ?_
 rintro e w1 ⟨Q,c1,rfl,u,I⟩
 have F:=Lh u
 clear u
 go_wp2_with fail
 go_ret
 exact⟨_,_,rfl,F.out,I⟩
section
variable {P:Program} {w:World} {α:Type} {enc:α->List Value} {sz:Nat}
theorem wp_append_rs (he:∀ x,(enc x).length=sz) {o:Oper} {a:Act} {next:Act->World->Prop} {Q:Exit->Act->World->Prop} (s x:Operand) (t:TypeId)
  (ho:o.op=.call { callee:=.builtin .append,args:=#[s,x],argTypes:=#[t,t] })
  (base:Nat) (e:TypeId) (i:TypeInfo) (z:Value) (G:Nat) (ht:P.underlying t=some (.slice e)) (hi:P.info? e=some i) (hz:i.zero=some z)
  (a6:i.size=sz) (a2:i.bytes=G) (a8:z.cells.size=sz) (a7:0 < sz)
  (v:Value) (n:Nat) (xs:List Value) (hs:a.eval s=v) (a4:w.ownsRow base e sz v n xs)
  (B:Nat) (A:Option Addr) (m c:Nat) (I:List α) (hx:a.eval x=.slice A m c) (hr:Rs enc sz w B A m c I) (W:∀ y,∀ u∈enc y,u.oneCell'=true)
  (k:Nat) (hk:n+m=k) (zs:List Value) (a9:xs ++ flat enc I=zs) (a0:n+m<=maxLen) (a3:(n+m) * G<=140737488355328) (a1:base<=w.heap.size)
  (h:∀ A' F w',w'.ownsRow base e sz (.slice A' k F) k zs->w.grownBy w' v.ownBlock->((Value.slice A' k F).ownBlock=v.ownBlock\/(Value.slice A' k F).ownBlock=some w.heap.size)->next (a.put o.dst (.slice A' k F)) w'):o.wp P a w next Q:=by
 subst hk a9
 obtain⟨v',w',a5,J,Y,h4⟩:=run_append_rs (P:=P) he base t o.type e i z G ht hi hz a6 a2 a8 a7 v n xs a4 B A m c I hr W a0 a3 a1
 obtain⟨A',F,rfl⟩:=own_slice J
 exact Lib.wp_append_run w s x t t ho v _ hs hx _ w' a5 (h A' F w' J Y h4)
end
theorem Hs.put1 {w F:World} {B p:Nat} {r:Option Nat} {s:Int} {l l':List Ev} {A':Option Addr} {z u:Nat} (h:Hs w B p r s l) (hn:l'.length=z) (G:w.grownBy F r) (ho:F.ownsRow B 146 6 (.slice A' z u) z (flat encE l'))
  (Y:(Value.slice A' z u).ownBlock=r \/ ∃ g,(Value.slice A' z u).ownBlock=some g/\w.heap.size<=g) :
  ∃ J,Hs (F.setCell ⟨p,1,none⟩ (.slice A' z u)) B p J s l'/\Fr (some p) r w (F.setCell ⟨p,1,none⟩ (.slice A' z u))/\(J=r \/ ∃ g,J=some g/\w.heap.size<=g):=by
 subst hn
 have W:=h.lt
 have I:some p≠r:=fun e=>h.ne e.symm
 have Q:(Value.slice A' l'.length u).ownBlock≠some p:=by
  rcases Y with e | ⟨g,e,a1⟩
  .rw[e]; exact h.ne
  .rw[e]; intro e2; injection e2; omega
 obtain⟨A,c,h1,h2,h3⟩:=h.evs
 refine⟨_,⟨(World.cell?_setCell_other _ _ _ _ (fun e=>by injection e with _ e; omega)).trans (G.cell h.step I),⟨A',u,World.cell?_setCell_same _ _ _ (G.cell h1 I),owS ho (fun g a0=>heap_setCell_other F _ g _ (fun e=>Q (by rw[a0,show g=p from e]))),rfl⟩,by simpa using gfz G h.free0 W I,by simpa using gfz G h.free1 W I,h.lo,Q⟩,?_,Y⟩
 exact (Fr.of_grown (a:=some p) (b:=r) G (.inr (.inr rfl))).then (Fr.of_grown (a:=some p) (b:=r) (gsC F ⟨p,1,none⟩ _) (.inr (.inl rfl))) (fun k e _=>.inl e.symm) (fun k e _=>.inr e.symm)
theorem add_any (w:World) (B p:Nat) (r:Option Nat) (s:Int) (l:List Ev) (th ki op id W:Int) (h:Hs w B p r s l) (a9:l.length<=1000) :
  Calls Tryz.prog 143 #[.pointer (some ⟨p,0,none⟩),.int .i64 th,.int .i64 ki,.int .i64 op,.int .u64 id,.int .i64 W] w fun e w'=>e=.returned (.tuple #[]) /\
   ∃ r',Hs w' B p r' s (l ++ [⟨s,th,ki,op,id,W⟩])/\Fr (some p) r w w'/\(r'=r \/ ∃ g,r'=some g/\w.heap.size<=g):=by
 obtain⟨A,c,I,h2,h3⟩:=h.evs
 have z:=h.step
 have f1:=h.free1
 have hl:=h.lt
 have a7:=h.lo
 have HH:=Lh h
 have HO:=Lh h2
 have H3:=Lh h3
 obtain⟨i0,hi,a2,a3,a4⟩:=info_parts info_ev
 have HI:=Lh (show Tryz.prog.info? 146=some i0/\_/\_/\_ from⟨hi,a2,a3,a4⟩)
 clear h h2 h3 hi a2 a3 a4
 generalize hn:l.length=n at *
 have HN:=Lh hn
 clear hn
 go_enter Tryz.func143,Tryz.ntmps143
 go_wp2_with fail
 refine rgS 19 (fun w'=>w'.cell? ⟨p,0,none⟩=some (.int .u64 s)/\w'.cell? ⟨p,1,none⟩=some (.slice A n c)) (by kernel_rfl) (by kernel_rfl) ?_
 intro hT
 have u:=Lh hT
 clear hT
 refine rq 0 u.out ⟨z,I⟩ rfl ?_ (hv:=fun w' hw=>by (obtain⟨F,G⟩:=hw; go_simp; exact rfl))
 refine rq 1 u.out ⟨z,I⟩ rfl ?_ (hv:=fun w' hw=>by (obtain⟨F,G⟩:=hw; go_simp; exact rfl))
 refine rq 2 u.out ⟨z,I⟩ rfl ?_ (hv:=fun w' hw=>by (obtain⟨F,G⟩:=hw; go_simp; exact rfl))
 refine rq 3 u.out ⟨z,I⟩ rfl ?_ (hv:=fun w' hw=>by (obtain⟨F,G⟩:=hw; go_simp; exact rfl))
 refine rq 4 u.out ⟨z,I⟩ rfl ?_ (hv:=fun w' hw=>by (obtain⟨F,G⟩:=hw; go_simp; exact rfl))
 refine rq 5 u.out ⟨z,I⟩ rfl ?_ (hv:=fun w' hw=>by (obtain⟨F,G⟩:=hw; go_simp; exact rfl))
 refine rq 6 u.out ⟨z,I⟩ rfl ?_ (hv:=fun w' hw=>by (obtain⟨F,G⟩:=hw; go_simp; exact rfl))
 refine rq 7 u.out ⟨z,I⟩ rfl ?_ (hv:=fun w' hw=>by (obtain⟨F,G⟩:=hw; go_simp; exact rfl))
 refine rq 8 u.out ⟨z,I⟩ rfl ?_ (hv:=fun w' hw=>by (obtain⟨F,G⟩:=hw; go_simp; exact rfl))
 refine rq 9 u.out ⟨z,I⟩ rfl ?_ (hv:=fun w' hw=>by (obtain⟨F,G⟩:=hw; go_simp; exact rfl))
 refine rq 10 u.out ⟨z,I⟩ rfl ?_ (hv:=fun w' hw=>by (obtain⟨F,G⟩:=hw; go_simp; exact rfl))
 refine rq 11 u.out ⟨z,I⟩ rfl ?_ (hv:=fun w' hw=>by (obtain⟨F,G⟩:=hw; go_simp; exact rfl))
 refine rq 12 u.out ⟨z,I⟩ rfl ?_ (hv:=fun w' hw=>by (obtain⟨F,G⟩:=hw; go_simp; exact rfl))
 refine rq 13 u.out ⟨z,I⟩ rfl ?_ (hv:=fun w' hw=>by (obtain⟨F,G⟩:=hw; go_simp; exact rfl))
 refine rq 14 u.out ⟨z,I⟩ rfl ?_ (hv:=fun w' hw=>by (obtain⟨F,G⟩:=hw; go_simp; exact rfl))
 refine rO 15 rfl (by kernel_rfl) rfl ?_
 unfold Oper.wp
 go_simp
 refine rO 16 rfl (by kernel_rfl) rfl ?_
 refine wp_append_rs (enc:=encE) encE_len _ _ 90 rfl B 146 i0 _ 48 Tryz.underlying90 HI.out.1 HI.out.2.1 HI.out.2.2.1 HI.out.2.2.2 rfl (by omega) (.slice A n c) n (flat encE l) rfl (owS HO.out (fun g J=>RowKit.Below.heap_alloc w.drew _ g (by have:=(HO.out.lt g J).2; exact this))) (w.heap.size+1) _ 1 1 [⟨s,th,ki,op,id,W⟩] rfl (rs_one encE_len w.drew ⟨s,th,ki,op,id,W⟩ _ rfl) encE_one (n+1) rfl (flat encE (l ++ [⟨s,th,ki,op,id,W⟩])) (flA l _).symm ?_ ?_ ?_ ?_
 .unfold maxLen; omega
 .omega
 .simp; omega
 intro A' c' w1 ho J a1
 rw[H3.out] at J a1
 have Y:w.grownBy w1 r:=⟨J.os,J.tape,J.output,Nat.le_trans (by simp) J.size,fun k hk a0=>(J.block k (by simp; omega) a0).trans (RowKit.Below.heap_alloc w.drew _ k hk)⟩
 have a0:some p≠r:=fun e=>HH.out.ne e.symm
 have e0:=Y.cell z a0
 have e1:=Y.cell I a0
 have ef:=gfz Y f1 hl a0
 have a8:p < w1.heap.size:=Lw.ltH e0
 refine⟨fun _=>⟨e0,e1⟩,?_⟩
 refine rq 17 u.out ⟨e0,e1⟩ rfl ?_ (hv:=fun w' hw=>by (obtain⟨F,G⟩:=hw; go_simp; exact rfl))
 refine rq 18 u.out ⟨e0,e1⟩ rfl ?_ (hv:=fun w' hw=>by (obtain⟨F,G⟩:=hw; go_simp; exact rfl))
 refine rO 19 rfl (by kernel_rfl) rfl ?_
 have HG:=Lh Y
 have a6:=Lh ho
 have a5:Hid ((Value.slice A' (n+1) c').ownBlock=r \/ ∃ g,(Value.slice A' (n+1) c').ownBlock=some g/\w.heap.size<=g):=Lh (by
  rcases a1 with e | e
  .exact .inl e
  .exact .inr ⟨_,e,by simp⟩)
 clear Y ho a1 J
 unfold Oper.wp
 go_simp
 refine rgD (by kernel_rfl) ?_
 obtain⟨r',q1,q2,q3⟩:=HH.out.put1 (by simp[HN.out]) HG.out a6.out a5.out
 have Q:=Lh (show _/\_/\_ from⟨q1,q2,q3⟩)
 clear q1 q2 q3
 go_wp2_with fail
 exact bodyPost_end (v:=.tuple #[]) (by simp[results,Tryz.results143]) rfl ⟨rfl,r',Q.out⟩
theorem clone_any (w:World) (B p:Nat) (r:Option Nat) (s:Int) (l:List Ev) (h:Hs w B p r s l) (a4:l.length<=1000) :
  Calls Tryz.prog 53 #[.pointer (some ⟨p,0,none⟩)] w fun e w'=>∃ p' r',e=.returned (.pointer (some ⟨p',0,none⟩))/\Hs w' B p' r' s l/\w.heap.size<=p'/\(∀ g,r'=some g->w.heap.size<=g)/\Below w.heap.size w w':=by
 obtain⟨A,c,z,hr⟩:=h.rs
 have u:=h.step
 have hl:=h.lt
 have a3:=h.lo
 have HR:=Lh hr
 clear h hr
 generalize hn:l.length=n at *
 have W:=Lh hn
 clear hn
 go_enter Tryz.func53,Tryz.ntmps53
 go_wp2_with fail
 refine rgS 9 (fun w'=>w'.cell? ⟨p,0,none⟩=some (.int .u64 s)/\w'.cell? ⟨p,1,none⟩=some (.slice A n c)) (by kernel_rfl) (by kernel_rfl) ?_
 intro hT
 have F:=Lh hT
 clear hT
 refine rq 0 F.out ⟨u,z⟩ rfl ?_ (hv:=fun w' hw=>by (obtain⟨G,I⟩:=hw; go_simp; exact rfl))
 refine rq 1 F.out ⟨u,z⟩ rfl ?_ (hv:=fun w' hw=>by (obtain⟨G,I⟩:=hw; go_simp; exact rfl))
 refine rq 2 F.out ⟨u,z⟩ rfl ?_ (hv:=fun w' hw=>by (obtain⟨G,I⟩:=hw; go_simp; exact rfl))
 refine rq 3 F.out ⟨u,z⟩ rfl ?_ (hv:=fun w' hw=>by (obtain⟨G,I⟩:=hw; go_simp; exact rfl))
 refine rq 4 F.out ⟨u,z⟩ rfl ?_ (hv:=fun w' hw=>by (obtain⟨G,I⟩:=hw; go_simp; exact rfl))
 refine rq 5 F.out ⟨u,z⟩ rfl ?_ (hv:=fun w' hw=>by (obtain⟨G,I⟩:=hw; go_simp; exact rfl))
 refine rq 6 F.out ⟨u,z⟩ rfl ?_ (hv:=fun w' hw=>by (obtain⟨G,I⟩:=hw; go_simp; exact rfl))
 refine rq 7 F.out ⟨u,z⟩ rfl ?_ (hv:=fun w' hw=>by (obtain⟨G,I⟩:=hw; go_simp; exact rfl))
 refine rO 8 rfl (by kernel_rfl) rfl ?_
 unfold Oper.wp
 go_simp
 refine (eclone_any A n c l _ _ (HR.out.below (Below.refl _ _).drew) (by simp) (by omega)).mono ?_
 rintro e J ⟨A1,c1,rfl,ho,Q⟩
 have e0:J.cell? ⟨p,0,none⟩=some (.int .u64 s):=(Q.cell (p:=⟨p,0,none⟩) hl).trans u
 have e1:J.cell? ⟨p,1,none⟩=some (.slice A n c):=(Q.cell (p:=⟨p,1,none⟩) hl).trans z
 have a1:Below w.heap.size w J:=(Below.refl _ _).drew.trans Q
 have a2:=a1.size
 have HO:=Lh ho
 clear ho Q
 refine⟨⟨e0,e1⟩,?_⟩
 refine rO 9 rfl (by kernel_rfl) rfl ?_
 unfold Oper.wp
 go_simp
 refine rO 10 rfl (by kernel_rfl) rfl ?_
 unfold Oper.wp
 go_simp
 refine rO 11 rfl (by kernel_rfl) rfl ?_
 unfold Oper.wp
 go_simp
 refine rgD (by kernel_rfl) ?_
 go_wp2_with fail
 go_ret
 have a0:=HO.out.lt
 refine⟨J.heap.size,(Value.slice A1 n c1).ownBlock,rfl,⟨by go_simp,⟨A1,c1,by rw[W.out]; go_simp,?_,by rw[W.out]⟩,by go_simp,by go_simp,by omega,?_⟩,a2,fun g Y=>(a0 g Y).1,a1.alloc a2 _⟩
 .rw[W.out]
  refine own_mono (owS HO.out (fun g Y=>RowKit.Below.heap_alloc J _ g (a0 g Y).2)) (show B<=w.heap.size by omega)
 .intro e
  have:=(a0 _ e).2
  omega
theorem txt_first:txt ⟨1,2,0,0,0,0⟩ = { data:=#[49,32,50,32,99,97,108,108,32,103,101,116,32,48,32,48] }:=by decide +kernel
theorem first_ok:(⟨1,2,0,0,0,0⟩:Ev).ok:=by constructor <;> simp[U64,I64]
theorem six_at {w:World} {B:Nat} {A:Option Addr} {n c k:Nat} {l:List Ev} (h:Rs encE 6 w B A n c l) (hk:k < n):∃ b o e,A=some ⟨b,o,none⟩/\b < B/\l[k]? = some e /\
  w.cell? ⟨b,o+k * 6,none⟩=some (.int .u64 e.step)/\w.cell? ⟨b,o+k * 6+1,none⟩=some (.int .i64 e.thread)/\w.cell? ⟨b,o+k * 6+2,none⟩=some (.int .i64 e.kind) /\
  w.cell? ⟨b,o+k * 6+3,none⟩=some (.int .i64 e.op)/\w.cell? ⟨b,o+k * 6+4,none⟩=some (.int .u64 e.id)/\w.cell? ⟨b,o+k * 6+5,none⟩=some (.int .i64 e.err):=by
 obtain⟨b,o,e,u,z,F,hc⟩:=h.get hk
 exact⟨b,o,e,u,z,F,hc 0 _ (by omega) rfl,hc 1 _ (by omega) rfl,hc 2 _ (by omega) rfl,hc 3 _ (by omega) rfl,hc 4 _ (by omega) rfl,hc 5 _ (by omega) rfl⟩
theorem awake9_any (w:World) (hT:Tab w) :
  Calls Tryz.prog 372 #[] w fun e w'=>e=.returned (.bool true)/\Below w.heap.size w w':=by
 have HT:=Lh hT
 clear hT
 go_enter Tryz.func372,Tryz.ntmps372
 go_wp2_with fail
 refine (new_any _ w.heap.size (Nat.le_refl _)).mono ?_
 rintro e w1 ⟨p,rfl,Y,a6,G⟩
 go_wp2_with fail
 refine (advance_any _ _ _ _ _ _ Y (by omega)).mono ?_
 rintro e w2 ⟨rfl,h2,a1⟩
 have u:Below w.heap.size w w2:=G.trans (a1.below G.size (fun k hk=>by cases hk; omega) (fun k hk=>by cases hk))
 clear Y G a1
 go_wp2_with fail
 refine (add_any _ _ _ _ _ _ 2 0 0 0 0 h2 (by simp)).mono ?_
 rintro e w3 ⟨rfl,r3,h3,a2,a4⟩
 have z:Below w.heap.size w w3:=u.trans (a2.below u.size (fun k hk=>by cases hk; omega) (fun k hk=>by cases hk))
 clear h2 u a2 a4
 go_wp2_with fail
 refine (all_any _ _ _ _ _ _ h3 (by simp)).mono ?_
 rintro e J ⟨A,c,rfl,ho,a0⟩
 have F:Below w.heap.size w J:=z.trans (a0.mono z.size)
 have hr:Rs encE 6 J J.heap.size A 1 c [⟨1,2,0,0,0,0⟩]:=Rs.own_rs encE_len rfl ho
 have Q:=Lh hr
 clear h3 z ho a0 hr
 simp only[List.nil_append,List.length_cons,List.length_nil,Nat.zero_add]
 go_wp2_with fail
 refine (Pi.Awake8_any _).mono ?_
 rintro e w5 ⟨rfl,I⟩
 obtain⟨b,o,e,rfl,a5,hx,c0,c1,c2,c3,c4,c5⟩:=six_at (Q.out.later I) (k:=0) (by omega)
 obtain rfl:(⟨1,2,0,0,0,0⟩:Ev)=e:=by simpa using hx
 have W:Below w.heap.size w w5:=F.trans (I.mono F.size)
 have h:=Lh W
 clear F I W hx Q
 simp only[Nat.zero_mul,Nat.add_zero] at c0 c1 c2 c3 c4 c5
 go_wp2_with fail
 refine (text_any ⟨1,2,0,0,0,0⟩ first_ok _ (HT.out.below h.out)).mono ?_
 rintro e w6 ⟨rfl,a3⟩
 rw[txt_first]
 go_wp2_with fail
 go_ret
 exact⟨rfl,h.out.trans (a3.mono h.out.size)⟩
theorem Awake9_any (w:World) (h:Tab w) :
  Calls Tryz.prog 367 #[] w fun e w'=>e=.returned (.bool true)/\Below w.heap.size w w':=by
 go_enter Tryz.func367,Tryz.ntmps367
 go_wp2_with fail
 refine (awake9_any _ h).mono ?_
 rintro e w' ⟨rfl,u⟩
 go_wp2_with fail
 go_ret
 exact⟨rfl,u⟩
end Go.Proofs.YtoiklelghfckgaaGreatDoor.Hi
end
section
set_option linter.unusedVariables false
namespace Go.Proofs.YtoiklelghfckgaaGreatDoor.Hi
open Go.ChangeShapes Go.WideShapes Go.ChangeAt Go.RowKit Rw Tx
def dl (t:Int) (e:Ev):Int:=if e.thread=t then (if e.kind=0 then 1 else if e.kind=2 then -1 else 0) else 0
def cnt (l:List Ev) (t:Int):Int:=(l.map (dl t)).sum
def V2 (w:World) (g:Nat) (a b:Value):Prop:=(w.cell? ⟨g,0,none⟩=some a/\w.cell? ⟨g,1,none⟩=some b)/\w.frozen? ⟨g,0,none⟩=false/\w.frozen? ⟨g,1,none⟩=false
end Go.Proofs.YtoiklelghfckgaaGreatDoor.Hi
end
section
set_option maxRecDepth 100000
set_option maxHeartbeats 8000000
set_option linter.unusedVariables false
namespace Go.Proofs.YtoiklelghfckgaaGreatDoor.Sn
open Go.ChangeShapes Go.WideShapes Go.ChangeAt Go.RowKit Rw Sl
def Fresh (w:World) (v u:Value):Prop:=u=v \/ ∃ A n c,u=.agg #[.slice A n c] /\ ∀ b o,A=some ⟨b,o,none⟩->w.heap.size<=b
theorem own_fresh {w w':World} {v:Value} {base n c:Nat} {e:TypeId} {A:Option Addr} {xs:List Value} (h:w'.ownsRow base e 1 (.slice A n c) n xs) (u:w.heap.size<=base):Fresh w v (.agg #[.slice A n c]):=
 .inr ⟨A,n,c,rfl,fun b o e=>by subst e; exact Nat.le_trans u (h.lt b rfl).1⟩
theorem with2_any (v:Value) (xs:List Int) (x:Int) (w:World) (h:Snap w w.heap.size v xs) (hl:xs.length * 8+8<=140737488355328) (hx:0<=x/\x<=18446744073709551615) :
  Calls Tryz.prog 182 #[v,.int .u64 x] w fun e w'=>∃ u,e=.returned u/\Snap w' w'.heap.size u (sWith xs x)/\Below w.heap.size w w'/\Fresh w v u:=by
 have h':=h
 obtain⟨⟨A,n,c,rfl,r⟩,a3,a5⟩:=h
 obtain rfl:=r.len
 have R:=Lh r
 have G:=Lh h'
 have HD:=Lh a3
 have HO:=Lh a5
 clear r h' a3 a5
 obtain⟨i0,hi,af,ag,ah⟩:=info_parts info_u64
 by_cases hm:x∈xs
 .have ad:0<=sIdx xs x:=by have:=sIdx_neg xs x; have:=mt this.1 (by simpa using hm); omega
  have F:sWith xs x=xs:=by simp[sWith,hm]
  rw[F]
  have HM:=Lh hm
  clear hm F
  go_enter Tryz.func182,Tryz.ntmps182
  go_wp2_with fail
  refine (idx_any _ xs x _ (G.out.later (((Below.refl _ _).alloc (Nat.le_refl _) _).alloc (by simp) _))).mono ?_
  rintro e w' ⟨rfl,z⟩
  have c0:w'.cell? ⟨w.heap.size,0,none⟩=some (.slice A xs.length c):=(z.cell (p:=⟨w.heap.size,0,none⟩) (by simp; omega)).trans (by go_simp)
  have c1:w'.cell? ⟨w.heap.size+1,0,none⟩=some (.slice none 0 0):=(z.cell (p:=⟨w.heap.size+1,0,none⟩) (by simp)).trans (by go_simp)
  have f1:w'.frozen? ⟨w.heap.size+1,0,none⟩=false:=(z.frozen (p:=⟨w.heap.size+1,0,none⟩) (by simp)).trans (by go_simp)
  go_wp2_with fail
  have a2:Below w.heap.size w (w'.setCell ⟨w.heap.size+1,0,none⟩ (.slice A xs.length c)):=((((Below.refl _ _).alloc (Nat.le_refl _) _).alloc (by simp) _).trans (z.mono (by simp; omega))).setCell (p:=⟨w.heap.size+1,0,none⟩) (by simp) _
  exact bodyPost_ret (v:=.agg #[.slice A xs.length c]) (by simp[results,Tryz.results182,go_sem,c1]) rfl ⟨_,rfl,G.out.later a2,a2,.inl rfl⟩
 .have ad:sIdx xs x < 0:=(sIdx_neg xs x).2 hm
  have F:sWith xs x=xs ++ [x]:=by simp[sWith,hm]
  have W:=nodup_sWith HD.out x
  have Y:=HO.out.with_ hx.1 hx.2
  rw[F] at W Y ⊢
  have a9:=Lh W
  have aa:=Lh Y
  clear hm F W Y
  go_enter Tryz.func182,Tryz.ntmps182
  go_wp2_with fail
  refine (idx_any _ xs x _ (G.out.later (((Below.refl _ _).alloc (Nat.le_refl _) _).alloc (by simp) _))).mono ?_
  rintro e w' ⟨rfl,z⟩
  have c0:w'.cell? ⟨w.heap.size,0,none⟩=some (.slice A xs.length c):=(z.cell (p:=⟨w.heap.size,0,none⟩) (by simp; omega)).trans (by go_simp)
  have c1:w'.cell? ⟨w.heap.size+1,0,none⟩=some (.slice none 0 0):=(z.cell (p:=⟨w.heap.size+1,0,none⟩) (by simp)).trans (by go_simp)
  have f1:w'.frozen? ⟨w.heap.size+1,0,none⟩=false:=(z.frozen (p:=⟨w.heap.size+1,0,none⟩) (by simp)).trans (by go_simp)
  have a1:Below w.heap.size w w':=(((Below.refl _ _).alloc (Nat.le_refl _) _).alloc (by simp) _).trans (z.mono (by simp; omega))
  have aj:w.heap.size+2<=w'.heap.size:=by have:=z.size; simpa using this
  clear z
  go_wp2_with fail
  refine (all_any _ xs _ (G.out.later a1) (by omega)).mono ?_
  rintro e w2 ⟨u,uc,rfl,a6,I⟩
  have c2:w2.cell? ⟨w.heap.size+1,0,none⟩=some (.slice none 0 0):=(I.cell (p:=⟨w.heap.size+1,0,none⟩) (by show w.heap.size+1 < _; omega)).trans c1
  have f2:w2.frozen? ⟨w.heap.size+1,0,none⟩=false:=(I.frozen (p:=⟨w.heap.size+1,0,none⟩) (by show w.heap.size+1 < _; omega)).trans f1
  have ak:=I.size
  clear c0 c1 f1
  have Q:∀ g,(Value.slice u xs.length uc).ownBlock=some g->w'.heap.size<=g:=fun g hg=>(a6.lt g hg).1
  have a4:some (w.heap.size+1)≠(Value.slice u xs.length uc).ownBlock:=fun e=>by have:=Q _ e.symm; omega
  have H3:=Lh Q
  have a0:=Lh a4
  clear Q a4
  go_wp2_with (at_builtin; refine apRd _ rfl _ _ 30 rfl w'.heap.size 25 i0 (.int .u64 0) 8 Tryz.underlying30 hi af ag ah rfl _ xs.length _ rfl (a6.alloc _) _ _ 1 1 [x] rfl (rd_one (enc:=Value.int .u64) w2 x _) one_u64 (xs.length+1) rfl ((xs ++ [x]).map (Value.int .u64)) List.map_append.symm (by unfold maxLen; omega) (by omega) (by simp; omega) ?_; intro v3 a8 w3 ae J ai; have c3:=J.cell (alC c2 _) a0.out; have f3:=gfz J (alloc_frozen f2 (by show w.heap.size+1 < _; omega) _) (by show w.heap.size+1 < _; simp; omega) a0.out)
  have ac:Below w.heap.size w w3:=((a1.trans (I.mono (by omega))).alloc (by omega) _).grown J (by simp; omega) (fun k hk=>by have:=H3.out k hk; omega)
  go_wp2_with fail
  have a7:=ownsRow_setCell_below ae (a:=⟨w.heap.size+1,0,none⟩) (by show w.heap.size+1 < _; omega) (.slice v3 (xs.length+1) a8)
  exact bodyPost_ret (v:=.agg #[.slice v3 (xs.length+1) a8]) (by simp[results,Tryz.results182,go_sem,c3]) rfl ⟨_,rfl,⟨⟨_,_,_,rfl,Rd.own_rd a7⟩,a9.out,aa.out⟩,ac.setCell (p:=⟨w.heap.size+1,0,none⟩) (by simp) _,own_fresh a7 (by first | omega | (simp; omega))⟩
theorem without2_any (v:Value) (xs:List Int) (x:Int) (w:World) (h:Snap w w.heap.size v xs) (hl:xs.length * 8<=140737488355328) :
  Calls Tryz.prog 252 #[v,.int .u64 x] w fun e w'=>∃ u,e=.returned u/\Snap w' w'.heap.size u (sWithout xs x)/\Below w.heap.size w w'/\Fresh w v u:=by
 have Y:=h
 obtain⟨⟨A,n,c,rfl,r⟩,a4,a5⟩:=h
 obtain rfl:=r.len
 have ai:=r.cap
 have ao:=r.top
 have R:=Lh r
 have G:=Lh Y
 have Q:=Lh a4
 have HO:=Lh a5
 clear r Y a4 a5
 by_cases hm:x∈xs
 .obtain⟨k,hk,ac,a3⟩:=sIdx_get hm
  obtain⟨b,o,y,rfl,z,-,-⟩:=R.out.get ac
  have HE:=Lh (sWithout_cut Q.out a3)
  clear hm a3
  have HK:=Lh hk
  clear hk
  have J:b < w.heap.size:=z
  go_enter Tryz.func252,Tryz.ntmps252
  go_wp2_with fail
  refine (idx_any _ xs x _ (G.out.later (((Below.refl _ _).alloc (Nat.le_refl _) _).alloc (by simp) _))).mono ?_
  rintro e w' ⟨rfl,z⟩
  rw[HK.out]
  have c0:w'.cell? ⟨w.heap.size,0,none⟩=some (.slice (some ⟨b,o,none⟩) xs.length c):=(z.cell (p:=⟨w.heap.size,0,none⟩) (by simp; omega)).trans (by go_simp)
  have c1:w'.cell? ⟨w.heap.size+1,0,none⟩=some (.slice none 0 0):=(z.cell (p:=⟨w.heap.size+1,0,none⟩) (by simp)).trans (by go_simp)
  have f1:w'.frozen? ⟨w.heap.size+1,0,none⟩=false:=(z.frozen (p:=⟨w.heap.size+1,0,none⟩) (by simp)).trans (by go_simp)
  have a2:Below w.heap.size w w':=(((Below.refl _ _).alloc (Nat.le_refl _) _).alloc (by simp) _).trans (z.mono (by simp; omega))
  have a8:w.heap.size+2<=w'.heap.size:=by have:=z.size; simpa using this
  clear z
  go_wp2_with fail
  have ak:k<=c:=by omega
  have aj:k+1<=xs.length:=by omega
  have ae:IntKind.i64.wrap ((k:Int)+1)=(k:Int)+1:=IntWalk.i64_in _ (by omega)
  have af:0<=(k:Int)+1:=by omega
  have ag:((k:Int)+1).toNat=k+1:=by omega
  have ah:(k:Int)+1<=(xs.length:Int):=by omega
  go_still_tail 9,(by kernel_rfl)
  change wpList _ _ _ _ _ w'.drew
  have I:Below w.heap.size w w'.drew:=a2.drew
  have d1:w'.drew.cell? ⟨w.heap.size+1,0,none⟩=some (.slice none 0 0):=c1
  have g1:w'.drew.frozen? ⟨w.heap.size+1,0,none⟩=false:=f1
  have an:w.heap.size+2<=w'.drew.heap.size:=a8
  clear c0 c1 f1 a2 a8 ae af ag ah
  generalize w'.drew=w2 at *
  obtain⟨A2,a0,a1⟩:∃ A2,(if c=k+1 then some (⟨b,o,none⟩:Addr) else some ⟨b,o+(k+1),none⟩)=A2/\(k+1 < xs.length->A2=some ⟨b,o+(k+1),none⟩):=⟨_,rfl,fun h=>by rw[if_neg (by omega)]⟩
  rw[a0]
  have aa:=Lh a1
  clear a0 a1
  go_wp2_with fail
  refine (concat_two _ _ A2 k c (xs.length - (k+1)) (c - (k+1)) w.heap.size w.heap.size (xs.take k) (xs.drop (k+1)) _ (by go_simp) (by go_simp) (((R.out.below I).front (by omega)).alloc (by omega) _) (((R.out.below I).back (by omega) rfl aa.out).alloc (by omega) _) (by simp; omega) (by simp; omega) (by simp) (by omega)).mono ?_
  rintro e w3 ⟨v3,a9,rfl,a6,F⟩
  have ad:=F.size
  simp at ad
  have c3:w3.cell? ⟨w.heap.size+1,0,none⟩=some (.slice none 0 0):=(F.cell (p:=⟨w.heap.size+1,0,none⟩) (by simp; omega)).trans (alC d1 _)
  have f3:w3.frozen? ⟨w.heap.size+1,0,none⟩=false:=(F.frozen (p:=⟨w.heap.size+1,0,none⟩) (by simp; omega)).trans (alloc_frozen g1 (by show w.heap.size+1 < _; omega) _)
  rw[HE.out] at a6
  go_wp2_with fail
  have a7:=ownsRow_setCell_below a6 (a:=⟨w.heap.size+1,0,none⟩) (by show w.heap.size+1 < _; simp; omega) (.slice v3 (k+(xs.length - (k+1))) a9)
  exact bodyPost_ret (v:=.agg #[.slice v3 (k+(xs.length - (k+1))) a9]) (by simp[results,Tryz.results252,go_sem,c3]) rfl ⟨_,rfl,⟨⟨_,_,_,rfl,Rd.own_rd a7⟩,nodup_sWithout Q.out x,HO.out.without x⟩,
   ((I.alloc (by omega) _).trans (F.mono (by simp; omega))).setCell (p:=⟨w.heap.size+1,0,none⟩) (by simp) _,own_fresh a7 (by first | omega | (simp; omega))⟩
 .have al:sIdx xs x < 0:=(sIdx_neg xs x).2 hm
  have W:sWithout xs x=xs:=sWithout_none hm
  rw[W]
  clear hm W
  go_enter Tryz.func252,Tryz.ntmps252
  go_wp2_with fail
  refine (idx_any _ xs x _ (G.out.later (((Below.refl _ _).alloc (Nat.le_refl _) _).alloc (by simp) _))).mono ?_
  rintro e w' ⟨rfl,z⟩
  have c0:w'.cell? ⟨w.heap.size,0,none⟩=some (.slice A xs.length c):=(z.cell (p:=⟨w.heap.size,0,none⟩) (by simp; omega)).trans (by go_simp)
  have c1:w'.cell? ⟨w.heap.size+1,0,none⟩=some (.slice none 0 0):=(z.cell (p:=⟨w.heap.size+1,0,none⟩) (by simp)).trans (by go_simp)
  have f1:w'.frozen? ⟨w.heap.size+1,0,none⟩=false:=(z.frozen (p:=⟨w.heap.size+1,0,none⟩) (by simp)).trans (by go_simp)
  go_wp2_with fail
  have J:Below w.heap.size w (w'.setCell ⟨w.heap.size+1,0,none⟩ (.slice A xs.length c)):=((((Below.refl _ _).alloc (Nat.le_refl _) _).alloc (by simp) _).trans (z.mono (by simp; omega))).setCell (p:=⟨w.heap.size+1,0,none⟩) (by simp) _
  exact bodyPost_ret (v:=.agg #[.slice A xs.length c]) (by simp[results,Tryz.results252,go_sem,c1]) rfl ⟨_,rfl,G.out.later J,J,.inl rfl⟩
end Go.Proofs.YtoiklelghfckgaaGreatDoor.Sn
namespace Go.Proofs.YtoiklelghfckgaaGreatDoor.Wl
open Go.ChangeShapes Go.WideShapes Go.ChangeAt Go.RowKit Go.Maps Rw Sl Sn Ck
theorem setD_has (F:List Int) (x:Int):Maps.has (Mp.setD .u64 F) (.int .u64 x)=decide (x∈F):=by
 unfold Mp.setD
 rw[Maps.has_setOf _ _ _ (fun y u=>by obtain⟨z,_,rfl⟩:=List.mem_map.1 u; trivial),List.any_map,Bool.eq_iff_iff,List.any_eq_true,decide_eq_true_eq]
 constructor
 .rintro⟨y,u,h⟩
  have:y=x:=by simpa [Lit.sameKey] using h
  exact this ▸ u
 .intro h
  exact⟨x,h,by simp[Lit.sameKey]⟩
theorem setD_tidy (h:List Int):Maps.Tidy (Mp.setD .u64 h):=by
 unfold Mp.setD
 exact Maps.tidy_setOf _ _ (fun y u=>by obtain⟨z,_,rfl⟩:=List.mem_map.1 u; trivial)
theorem setD_size:∀ (u:List Int),u.Nodup->Maps.size (Mp.setD .u64 u)=u.length:=by
 intro u
 induction h:u.length generalizing u with
 | zero=>
  intro _
  obtain rfl:=List.eq_nil_of_length_eq_zero h
  rfl
 | succ n ih=>
  intro hn
  obtain⟨l,y,rfl⟩:∃ l y,u=l ++ [y]:=⟨u.dropLast,u.getLast (by intro e; simp[e] at h),(List.dropLast_concat_getLast _).symm⟩
  rw[List.nodup_append] at hn
  have z:l.length=n:=by simpa using h
  have G:y ∉ l:=fun F=>hn.2.2 y F y (by simp) rfl
  rw[Mp.setD_snoc,Maps.size_put (setD_tidy l),setD_has,decide_eq_false G,ih l z hn.1]
  simp
theorem set_run_gen {P:Program} (w:World) (t k e:TypeId) (q:IntKind) (hk:P.underlying k=some (.int q)) (G:P.underlying t=some (.map k e)) (u:P.underlying e=some .bool) (J:(zeroValue e).run P w=.ok (.bool false) w) (b n:Nat) (h:List Int)
  (z:w.ownsMap P k (plainElem P e) b n (Mp.setD q h)) (y:Int) (hw:(Lit.int q y).wf=true) :
  (Instr.lookup t (.map (some b)) (.int q y) false).run P w=.ok (.bool (decide (y∈h))) w:=by
 obtain⟨v,ps,F,hv⟩:=z.lookup (int_keyed hk) G J (plainElem_bool u false) (keyOf_int_mk hk hw)
 rw[Mp.setD_at] at hv
 have I:v=.bool (decide (y∈h)):=by
  unfold plainElem at hv
  rw[u] at hv
  cases v <;> simp at hv
  rw[hv.1]
 subst I
 exact F
theorem set_run {w:World} {b n:Nat} {h:List Int} {y:Int} (z:0<=y/\y<=18446744073709551615) (u:w.ownsMap Tryz.prog 25 (plainElem Tryz.prog 4) b n (Mp.setD .u64 h)) :
  (Instr.lookup 126 (.map (some b)) (.int .u64 y) false).run Tryz.prog w=.ok (.bool (decide (y∈h))) w:=
 set_run_gen w _ _ _ .u64 Tryz.underlying25 Tryz.underlying126 Tryz.underlying4 (Sn.zero_bool w) b n h u y (wf64 z)
end Go.Proofs.YtoiklelghfckgaaGreatDoor.Wl
namespace Go.Proofs.YtoiklelghfckgaaGreatDoor.Sf
open Go.ChangeShapes Go.WideShapes Go.ChangeAt Go.RowKit Rw Go.Shelf
def mbF (k:Nat):Nat:=if k=5 then 115 else if k=7 then 173 else 0
def mbT (k:Nat):Nat:=if k=4 then 4 else if k=20 then 20 else if k=23 then 126 else if k=25 then 25 else if k=3 then 4 else 0
def mbRen:Ren:={ f:=mbF,t:=mbT,g:=fun x=>x }
theorem mbLays:SlLaysW.n5 Tryz.prog mbRen:={
 mixed:=by kernel_rfl
 f5:=⟨ "maps.Clone[map[uint64]bool,uint64,bool]",by kernel_rfl,by kernel_rfl⟩
 f7:=by kernel_rfl
 t4:=by kernel_rfl
 a4:=fun w=>by kernel_rfl
 z4:=fun w=>by kernel_rfl
 v4:=fun w=>by kernel_rfl
 t20:=by kernel_rfl
 a20:=fun w=>by kernel_rfl
 z20:=fun w=>by kernel_rfl
 v20:=fun w=>by kernel_rfl
 t23:=by kernel_rfl
 a23:=fun w=>by kernel_rfl
 z23:=fun w=>by kernel_rfl
 v23:=fun w=>by kernel_rfl }
end Go.Proofs.YtoiklelghfckgaaGreatDoor.Sf
namespace Go.Proofs.YtoiklelghfckgaaGreatDoor.Fc
open Go.ChangeShapes Go.WideShapes Go.ChangeAt Go.RowKit Go.Maps Rw
theorem info_bool:(Tryz.prog.info? 4).map (fun i=>(i.zero,i.size,i.bytes))=some (some (.bool false),1,1):=by kernel_rfl
theorem one_bool (y:Bool):(Value.bool y).oneCell'=true:=rfl
theorem bclone_any (A:Option Addr) (n c:Nat) (xs:List Bool) (B:Nat) (w:World) (h:Rd Value.bool w B A n c xs) (G:B<=w.heap.size) (a1:n * 1<=140737488355328) :
  Calls Tryz.prog 120 #[.slice A n c] w fun e w'=>∃ A' z,e=.returned (.slice A' n z)/\w'.ownsRow w.heap.size 4 1 (.slice A' n z) n (xs.map Value.bool)/\Below w.heap.size w w':=by
 have hn:n<=9223372036854775807:=by have:=h.cap; have:=h.top; omega
 obtain⟨i0,hi,Q,W,Y⟩:=info_parts info_bool
 cases A with
 | none=>
  have u:n=0:=by
   rcases Nat.eq_zero_or_pos n with u | u
   .exact u
   .obtain⟨b,o,e,_⟩:=h.at_ u
    cases e
  subst u
  obtain rfl:=List.eq_nil_of_length_eq_zero h.len
  clear h
  have hk:=@Lib.run_eql_slice_nil Tryz.prog
  go_enter Tryz.func120,Tryz.ntmps120
  go_wp2
  go_ret
  exact⟨_,_,rfl,World.ownsRow_nil _ _ _ _,Below.refl _ _⟩
 | some a=>
  have F:=Lh h
  clear h
  have hk:=@Lib.run_eql_slice_nil Tryz.prog
  go_enter Tryz.func120,Tryz.ntmps120
  go_wp2_with (at_builtin; refine apRd _ rfl _ _ 39 rfl w.heap.size 4 i0 (.bool false) 1 Tryz.underlying39 hi Q W Y rfl _ 0 [] rfl (World.ownsRow_lit _ #[] 0 (Nat.le_refl _) (by decide) rfl) B (some a) n c xs rfl (F.out.alloc G _) one_bool n (Nat.zero_add _) (xs.map Value.bool) rfl ?_ ?_ ?_ ?_)
  .unfold maxLen; omega
  .omega
  .simp
  .intro A' z w' J I a0
   go_wp2
   go_ret
   refine⟨A',z,rfl,J,((Below.refl _ _).alloc (Nat.le_refl _) _).grown I (by simp) (fun k hk=>?_)⟩
   simp[Value.ownBlock] at hk
   omega
theorem sclone_any (A:Option Addr) (n c:Nat) (xs:List Bool) (B:Nat) (w:World) (h:Rd Value.bool w B A n c xs) (G:B<=w.heap.size) (a1:n * 1<=140737488355328) :
  Calls Tryz.prog 117 #[.slice A n c] w fun e w'=>∃ A' z,e=.returned (.slice A' n z)/\w'.ownsRow w.heap.size 4 1 (.slice A' n z) n (xs.map Value.bool)/\Below w.heap.size w w':=by
 have hn:n<=9223372036854775807:=by have:=h.cap; have:=h.top; omega
 obtain⟨i0,hi,Q,W,Y⟩:=info_parts info_bool
 cases A with
 | none=>
  have u:n=0:=by
   rcases Nat.eq_zero_or_pos n with u | u
   .exact u
   .obtain⟨b,o,e,_⟩:=h.at_ u
    cases e
  subst u
  obtain rfl:=List.eq_nil_of_length_eq_zero h.len
  clear h
  have hk:=@Lib.run_eql_slice_nil Tryz.prog
  go_enter Tryz.func117,Tryz.ntmps117
  go_wp2
  go_ret
  exact⟨_,_,rfl,World.ownsRow_nil _ _ _ _,Below.refl _ _⟩
 | some a=>
  have F:=Lh h
  clear h
  have hk:=@Lib.run_eql_slice_nil Tryz.prog
  go_enter Tryz.func117,Tryz.ntmps117
  go_wp2_with (at_builtin; refine apRd _ rfl _ _ 149 rfl w.heap.size 4 i0 (.bool false) 1 Tryz.underlying149 hi Q W Y rfl _ 0 [] rfl (World.ownsRow_lit _ #[] 0 (Nat.le_refl _) (by decide) rfl) B (some a) n c xs rfl (F.out.alloc G _) one_bool n (Nat.zero_add _) (xs.map Value.bool) rfl ?_ ?_ ?_ ?_)
  .unfold maxLen; omega
  .omega
  .simp
  .intro A' z w' J I a0
   go_wp2
   go_ret
   refine⟨A',z,rfl,J,((Below.refl _ _).alloc (Nat.le_refl _) _).grown I (by simp) (fun k hk=>?_)⟩
   simp[Value.ownBlock] at hk
   omega
structure Scr (w:World) (b m:Nat) (A:Option Addr) (k c:Nat) (O:List Bool):Prop where
 rd:Rd Value.bool w m A k c O
 lo:0 < k -> ∃ g o,A=some ⟨g,o,none⟩/\b<=g
theorem Scr.same {w w':World} {b m:Nat} {A:Option Addr} {k c:Nat} {O:List Bool} (h:Scr w b m A k c O) (hk:∀ g,b<=g->g < m->w'.heap[g]? = w.heap[g]?):Scr w' b m A k c O:=
 ⟨⟨h.rd.len,h.rd.cap,h.rd.top,fun hn=>by
  obtain⟨g,o,e,z,hc⟩:=h.rd.at_ hn
  obtain⟨G,I,u,F⟩:=h.lo hn
  rw[e] at u
  injection u with u
  injection u with e1 e2
  subst e1 e2
  refine⟨g,o,e,z,fun j x hx=>?_⟩
  rw[<- hc j x hx]
  unfold World.cell?
  simp only[hk g F z]⟩,h.lo⟩
theorem Scr.of_own {w:World} {b m:Nat} {A:Option Addr} {k c:Nat} {O:List Bool} (h:w.ownsRow b 4 1 (.slice A k c) k (O.map Value.bool)) (z:w.heap.size<=m):Scr w b m A k c O:=by
 refine⟨(Rd.own_rd h).more z,fun hk=>?_⟩
 rcases h.2 with ⟨e,G⟩ | ⟨g,cap,F,e,u,_⟩
 .omega
 .injection e with e1 _ _
  exact⟨g,0,e1,u⟩
structure Fa (w:World) (b m p:Nat) (O P:List Bool) (n:Nat) (C:List Int):Prop where
 opens:∃ A k c,w.cell? ⟨p,0,none⟩=some (.slice A k c)/\Scr w b m A k c O
 proofs:∃ A k c,w.cell? ⟨p,1,none⟩=some (.slice A k c)/\Scr w b m A k c P
 many:w.cell? ⟨p,2,none⟩=some (.int .u64 n)
 map:w.cell? ⟨p,3,none⟩=some (.map (some m))
 own:w.ownsMap Tryz.prog 25 (plainElem Tryz.prog 4) m C.length (Mp.setD .u64 C)
 free:∀ o,w.frozen? ⟨p,o,none⟩=false
 lo:b<=m
 lt:m < p
 nd:C.Nodup
 mem:∀ x∈C,1<=x/\x<=n
theorem Fa.in_ {w:World} {b m p n:Nat} {O P:List Bool} {C:List Int} (h:Fa w b m p O P n C):p < w.heap.size:=Lw.ltH h.many
theorem Fa.same {w w':World} {b m p n:Nat} {O P:List Bool} {C:List Int} (h:Fa w b m p O P n C) (hk:∀ g,b<=g->g<=p->w'.heap[g]? = w.heap[g]?):Fa w' b m p O P n C:=by
 have a0:=h.lo
 have a1:=h.lt
 have z:=hk p (by omega) (Nat.le_refl _)
 have hc:∀ o,w'.cell? ⟨p,o,none⟩=w.cell? ⟨p,o,none⟩:=fun o=>by unfold World.cell?; simp only[z]
 have hf:∀ o,w'.frozen? ⟨p,o,none⟩=w.frozen? ⟨p,o,none⟩:=fun o=>by unfold World.frozen?; simp only[z]
 obtain⟨A,k,c,I,Q⟩:=h.opens
 obtain⟨A',k',F,J,W⟩:=h.proofs
 obtain⟨es,G,Y,hr⟩:=h.own
 exact⟨⟨A,k,c,(hc 0).trans I,Q.same fun g u q2=>hk g u (by omega)⟩,⟨A',k',F,(hc 1).trans J,W.same fun g u q2=>hk g u (by omega)⟩,(hc 2).trans h.many,(hc 3).trans h.map,⟨es,G,(hk m h.lo (by omega)).trans Y,hr⟩,fun o=>(hf o).trans (h.free o),h.lo,h.lt,h.nd,h.mem⟩
theorem Fa.later {w w':World} {b m p n:Nat} {O P:List Bool} {C:List Int} (h:Fa w b m p O P n C) (u:Below w.heap.size w w'):Fa w' b m p O P n C:=
 h.same fun g _ z=>u.block g (by have:=h.in_; omega)
theorem next_nil (p i:Nat) (A:Option Addr) (c:Nat) (w:World) (h:w.cell? ⟨p,i,none⟩=some (.slice A 0 c)) :
  Calls Tryz.prog 128 #[.pointer (some ⟨p,i,none⟩)] w fun e w'=>e=.returned (.bool true)/\w=w':=by
 go_enter Tryz.func128,Tryz.ntmps128
 go_wp2_with fail
 go_ret
 exact⟨rfl,rfl⟩
theorem next_cons (p i:Nat) (A:Option Addr) (k c b m:Nat) (x:Bool) (l:List Bool) (w:World) (h0:w.cell? ⟨p,i,none⟩=some (.slice A k c)) (hf:w.frozen? ⟨p,i,none⟩=false) (h:Scr w b m A k c (x :: l)) (hp:p < w.heap.size) :
  Calls Tryz.prog 128 #[.pointer (some ⟨p,i,none⟩)] w fun e w'=>e=.returned (.bool x) /\ ∃ A' I F,Scr w b m A' I F l/\w.setCell ⟨p,i,none⟩ (.slice A' I F)=w':=by
 obtain⟨u,G⟩:=h
 have hn:(x :: l).length=k:=u.len
 simp at hn
 have a2:=u.cap
 have a3:=u.top
 obtain⟨g,o,y,rfl,hg,hx,Q⟩:=u.get (k:=0) (by omega)
 obtain rfl:x=y:=by simpa using hx
 obtain⟨Y,o',e,J⟩:=G (by omega)
 injection e with e
 injection e with e1 e2
 subst e1 e2
 have hz:((k:Int) == 0)=false:=by simp; omega
 have a4:(k == 0)=false:=by simp; omega
 have z:=Lh u
 have a1:1<=k:=by omega
 simp only[Nat.add_zero] at Q
 have W:=Lh hn
 clear u G hx hn
 by_cases hc1:c=1
 .subst hc1
  obtain rfl:k=1:=by omega
  go_enter Tryz.func128,Tryz.ntmps128
  go_wp2_with fail
  go_ret
  exact⟨rfl,_,_,_,⟨z.out.back (i:=1) (A':=some ⟨g,o,none⟩) (by omega) rfl (by omega),fun hk=>(by omega)⟩,rfl⟩
 .have a0:1 < c:=by omega
  go_enter Tryz.func128,Tryz.ntmps128
  go_wp2_with fail
  go_ret
  exact⟨rfl,_,_,_,⟨z.out.back (i:=1) (A':=some ⟨g,o+1,none⟩) (by omega) rfl (fun _=>rfl),fun hk=>⟨g,o+1,rfl,J⟩⟩,rfl⟩
theorem gsC (w:World) (a:Addr) (u:Value):w.grownBy (w.setCell a u) (some a.block):=
 ⟨rfl,rfl,rfl,by simp,fun k _ hk=>heap_setCell_other w a k u (fun e=>hk (by rw[e]))⟩
section
variable {w:World} {b m p n:Nat} {O P:List Bool} {C:List Int}
theorem setCell_ne (w:World) {p:Nat} (i o:Nat) (u:Value) (h:i≠o):(w.setCell ⟨p,i,none⟩ u).cell? ⟨p,o,none⟩=w.cell? ⟨p,o,none⟩:=
 World.cell?_setCell_other _ _ _ _ (fun e=>by injection e with _ e; exact h e)
theorem Scr.put {A:Option Addr} {k c:Nat} {l:List Bool} (h:Scr w b m A k c l) (F:m < p) (i:Nat) (u:Value):Scr (w.setCell ⟨p,i,none⟩ u) b m A k c l:=
 h.same fun g _ z=>heap_setCell_other w _ g _ (fun e=>by have:g=p:=e; omega)
theorem own_put {k:TypeId} {R:Value->Option (DataW Unit × List MemPlace)} {q:Nat} {D:DataW Unit} (h:w.ownsMap Tryz.prog k R m q D) (I:m < p) (i:Nat) (u:Value):(w.setCell ⟨p,i,none⟩ u).ownsMap Tryz.prog k R m q D:=by
 obtain⟨es,z,F,G⟩:=h
 exact⟨es,z,(heap_setCell_other w _ m _ (fun e=>by have:m=p:=e; omega)).trans F,G⟩
theorem Fa.put0 (h:Fa w b m p O P n C) {A:Option Addr} {k c:Nat} {l:List Bool} (I:Scr w b m A k c l) :
  Fa (w.setCell ⟨p,0,none⟩ (.slice A k c)) b m p l P n C/\Hi.Fr (some p) (some m) w (w.setCell ⟨p,0,none⟩ (.slice A k c)):=by
 obtain⟨Q,k0,c0,F,-⟩:=h.opens
 obtain⟨z,k1,c1,G,J⟩:=h.proofs
 have u:=h.lt
 exact⟨⟨⟨A,k,c,World.cell?_setCell_same _ _ _ F,I.put u _ _⟩,⟨z,k1,c1,(setCell_ne w 0 1 _ (by omega)).trans G,J.put u _ _⟩,(setCell_ne w 0 2 _ (by omega)).trans h.many,(setCell_ne w 0 3 _ (by omega)).trans h.map,own_put h.own u _ _,fun o=>by simpa using h.free o,h.lo,u,h.nd,h.mem⟩,Hi.Fr.of_grown (gsC _ _ _) (.inr (.inl rfl))⟩
theorem Fa.put2 (h:Fa w b m p O P n C) :
  Fa (w.setCell ⟨p,2,none⟩ (.int .u64 ((n:Int)+1))) b m p O P (n+1) C/\Hi.Fr (some p) (some m) w (w.setCell ⟨p,2,none⟩ (.int .u64 ((n:Int)+1))):=by
 obtain⟨z,k0,c0,G,J⟩:=h.opens
 obtain⟨F,k1,c1,I,Q⟩:=h.proofs
 have u:=h.lt
 exact⟨⟨⟨z,k0,c0,(setCell_ne w 2 0 _ (by omega)).trans G,J.put u _ _⟩,⟨F,k1,c1,(setCell_ne w 2 1 _ (by omega)).trans I,Q.put u _ _⟩,World.cell?_setCell_same _ _ _ h.many,(setCell_ne w 2 3 _ (by omega)).trans h.map,own_put h.own u _ _,fun o=>by simpa using h.free o,h.lo,u,h.nd,fun x hx=>by have:=h.mem x hx; omega⟩,Hi.Fr.of_grown (gsC _ _ _) (.inr (.inl rfl))⟩
theorem Fa.shut (h:Fa w b m p O P n C) {w':World} {x:Int} {q:Nat} (u:w.grownBy w' (some m)) (ho:w'.ownsMap Tryz.prog 25 (plainElem Tryz.prog 4) m q (Mp.setD .u64 (C ++ [x]))) (hq:q=(C ++ [x]).length) (hx:x ∉ C) (W:1<=x/\x<=n) :
  Fa w' b m p O P n (C ++ [x])/\Hi.Fr (some p) (some m) w w':=by
 obtain⟨I,k0,c0,Q,a1⟩:=h.opens
 obtain⟨J,k1,c1,Y,a2⟩:=h.proofs
 have hm:=h.lt
 have a0:=h.in_
 have F:some p≠some m:=fun e=>by injection e; omega
 have G:∀ g,b<=g->g < m->w'.heap[g]? = w.heap[g]?:=fun g _ a3=>u.block g (by omega) (fun e=>by injection e; omega)
 subst hq
 refine⟨⟨⟨I,k0,c0,u.cell Q F,a1.same G⟩,⟨J,k1,c1,u.cell Y F,a2.same G⟩,u.cell h.many F,u.cell h.map F,ho,fun o=>gfz u (h.free o) a0 F,h.lo,hm,?_,?_⟩,Hi.Fr.of_grown u (.inr (.inr rfl))⟩
 .rw[List.nodup_append]
  exact⟨h.nd,by simp,fun a ha c hc=>by simp at hc; subst hc; intro e; subst e; exact hx ha⟩
 .intro y z
  rcases List.mem_append.1 z with z | z
  .exact h.mem y z
  .simp at z; subst z; exact W
end
def nx:List Bool->Bool × List Bool
 | []=>(true,[])
 | x :: l=>(x,l)
def kn (n:Nat) (C:List Int) (id cl:Int):Int:=if id=0\/(n:Int) < id then 9 else if id∈C then cl else 0
abbrev ptr (p:Nat):Value:=.pointer (some ⟨p,0,none⟩)
theorem next0_any (p b m n:Nat) (O P:List Bool) (C:List Int) (w:World) (h:Fa w b m p O P n C) :
  Calls Tryz.prog 128 #[.pointer (some ⟨p,0,none⟩)] w fun e w'=>e=.returned (.bool (nx O).1)/\Fa w' b m p (nx O).2 P n C/\Hi.Fr (some p) (some m) w w':=by
 obtain⟨A,k,c,F,I⟩:=h.opens
 cases O with
 | nil=>
  obtain rfl:0=k:=I.rd.len
  exact (next_nil p 0 A c w F).mono fun e w' ⟨z,u⟩=>⟨z,u ▸ h,u ▸ Hi.Fr.refl _ _ _⟩
 | cons x l=>
  exact (next_cons p 0 A k c b m x l w F (h.free 0) I h.in_).mono fun e w' ⟨z,A',Q,J,u,G⟩=>⟨z,G ▸ (h.put0 u).1,G ▸ (h.put0 u).2⟩
theorem open_any (p b m n:Nat) (O P:List Bool) (C:List Int) (w:World) (h:Fa w b m p O P n C) (hn:n < 18446744073709551615) :
  Calls Tryz.prog 71 #[ptr p] w fun e w'=>e=.returned (.tuple #[.int .u64 (if (nx O).1 then (n:Int)+1 else 0),.bool (nx O).1])/\Fa w' b m p (nx O).2 P (if (nx O).1 then n+1 else n) C/\Hi.Fr (some p) (some m) w w':=by
 have N:=next0_any p b m n O P C w h
 have F:=Lh N
 have hl:=h.in_
 clear N h
 generalize nx O=r at *
 obtain⟨Y,l⟩:=r
 cases Y
 .go_enter Tryz.func71,Tryz.ntmps71
  go_wp2_with fail
  refine F.out.mono ?_
  rintro e w1 ⟨rfl,u,z⟩
  go_wp2_with fail
  exact bodyPost_ret (v:=.tuple #[.int .u64 0,.bool false]) (by simp[results,Tryz.results71,go_sem]) rfl ⟨rfl,u,z⟩
 .go_enter Tryz.func71,Tryz.ntmps71
  go_wp2_with fail
  refine F.out.mono ?_
  rintro e w1 ⟨rfl,u,z⟩
  have d2:=u.many
  have f2:=u.free 2
  have a0:=u.in_
  have G:=Lh u
  have I:=Lh z
  clear u z
  go_wp2_with fail
  obtain⟨J,Q⟩:=G.out.put2
  have W:=I.out.then Q (fun k e _=>.inl e.symm) (fun k e _=>.inr e.symm)
  exact bodyPost_ret (v:=.tuple #[.int .u64 ((n:Int)+1),.bool true]) (by simp[results,Tryz.results71,go_sem]) rfl ⟨rfl,J,W⟩
theorem wrong_any (p b m n:Nat) (O P:List Bool) (C:List Int) (id cl:Int) (w:World) (h:Fa w b m p O P n C) (hid:0<=id/\id<=18446744073709551615) :
  Calls Tryz.prog 44 #[ptr p,.int .u64 id,.int .i64 cl] w fun e w'=>e=.returned (.int .i64 (kn n C id cl))/\w=w':=by
 have F:=h.many
 have G:=h.map
 have u:=Wl.set_run hid h.own
 by_cases h0:id=0
 .subst h0
  have e:kn n C 0 cl=9:=by simp[kn]
  rw[e]
  clear h u
  go_enter Tryz.func44,Tryz.ntmps44
  go_wp2_with fail
  go_ret
  exact⟨rfl,rfl⟩
 .have q0:(id == 0)=false:=by simpa using h0
  by_cases h1:(n:Int) < id
  .have z:decide ((n:Int) < id)=true:=decide_eq_true h1
   have e:kn n C id cl=9:=by simp[kn,h1]
   rw[e]
   clear h u
   go_enter Tryz.func44,Tryz.ntmps44
   go_wp2_with fail
   go_ret
   exact⟨rfl,rfl⟩
  .have z:decide ((n:Int) < id)=false:=decide_eq_false h1
   by_cases h2:id∈C
   .have e:kn n C id cl=cl:=by simp[kn,h0,h1,h2]
    rw[e]
    rw[decide_eq_true h2] at u
    clear h e h2
    go_enter Tryz.func44,Tryz.ntmps44
    go_wp2_with fail
    go_ret
    exact⟨rfl,rfl⟩
   .have e:kn n C id cl=0:=by simp[kn,h0,h1,h2]
    rw[e]
    rw[decide_eq_false h2] at u
    clear h e h2
    go_enter Tryz.func44,Tryz.ntmps44
    go_wp2_with fail
    go_ret
    exact⟨rfl,rfl⟩
theorem close_any (p b m n:Nat) (O P:List Bool) (C:List Int) (id:Int) (w:World) (h:Fa w b m p O P n C) (hid:0<=id/\id<=18446744073709551615) (hn:C.length < 1000) :
  Calls Tryz.prog 141 #[ptr p,.int .u64 id] w fun e w'=>e=.returned (.int .i64 (kn n C id 10))/\Fa w' b m p O P n (if kn n C id 10=0 then C ++ [id] else C)/\Hi.Fr (some p) (some m) w w':=by
 have W:=wrong_any p b m n O P C id 10 w h hid
 have hl:=h.in_
 have d3:=h.map
 have z:=Lh W
 have u:=Lh h
 have hw:(Lit.int .u64 id).wf=true:=Wl.wf64 hid
 clear W h
 by_cases hq:kn n C id 10=0
 .rw[hq] at z ⊢
  simp only[if_true]
  have hx:id ∉ C/\1<=id/\id<=n:=by
   unfold kn at hq
   split at hq
   .omega
   .split at hq
    .omega
    .rename_i h1 Y; exact⟨Y,by omega,by omega⟩
  have F:=Lh hx
  have J:=Lh u.out.own
  clear hx hq
  go_enter Tryz.func141,Tryz.ntmps141
  go_wp2_with fail
  refine z.out.mono ?_
  rintro e w1 ⟨rfl,rfl⟩
  go_wp2_with (refine Mp.update_set w rfl _ _ _ 126 rfl 25 4 .u64 Tryz.underlying25 Tryz.underlying126 Tryz.underlying4 m C.length C rfl J.out (by unfold maxLen; omega) id rfl rfl hw ?_)
  intro w2 I G
  have q:=u.out.shut G I (by simp) F.out.1 F.out.2
  have Q:=Lh q
  clear I G q
  go_wp2_with fail
  go_ret
  exact⟨rfl,Q.out⟩
 .rw[if_neg hq]
  generalize kn n C id 10=q at *
  have hb:(q != 0)=true:=by simpa using hq
  go_enter Tryz.func141,Tryz.ntmps141
  go_wp2_with fail
  refine z.out.mono ?_
  rintro e w1 ⟨rfl,rfl⟩
  go_wp2_with fail
  go_ret
  exact⟨rfl,u.out,Hi.Fr.refl _ _ _⟩
theorem isopen_any (p b m n:Nat) (O P:List Bool) (C:List Int) (id:Int) (w:World) (h:Fa w b m p O P n C) (hid:0<=id/\id<=18446744073709551615) :
  Calls Tryz.prog 16 #[ptr p,.int .u64 id] w fun e w'=>e=.returned (.bool (kn n C id 6 == 0))/\w=w':=by
 have W:=wrong_any p b m n O P C id 6 w h hid
 have u:=Lh W
 clear W h
 generalize kn n C id 6=q at *
 go_enter Tryz.func16,Tryz.ntmps16
 go_wp2_with fail
 refine u.out.mono ?_
 rintro e z ⟨rfl,rfl⟩
 go_wp2_with fail
 go_ret
 exact⟨rfl,rfl⟩
theorem closed_any (p b m n:Nat) (O P:List Bool) (C:List Int) (w:World) (h:Fa w b m p O P n C) (hn:C.length < 1000) :
  Calls Tryz.prog 28 #[ptr p] w fun e w'=>e=.returned (.int .u64 C.length)/\w=w':=by
 have F:=h.map
 have u:=Lh h.own
 have z:Hid (Maps.size (Mp.setD .u64 C)=C.length):=Lh (Wl.setD_size C h.nd)
 clear h
 have G:((C.length:Int))<=1000:=by omega
 go_enter Tryz.func28,Tryz.ntmps28
 go_wp2_with (at_len; refine wpList_len_own _ rfl _ 126 rfl 25 4 Tryz.underlying126 _ m C.length (Mp.setD .u64 C) rfl u.out ?_; rw[show Maps.size (Mp.setD .u64 C)=C.length from z.out])
 go_ret
 exact⟨rfl,rfl⟩
def ids (C:List Int):Nat->List Int
 | 0=>[]
 | k+1=>if ((k:Int)+1)∈C then ids C k else ids C k ++ [(k:Int)+1]
theorem setclone_any (w:World) (m:Nat) (C:List Int) (h:w.ownsMap Tryz.prog 25 (plainElem Tryz.prog 4) m C.length (Mp.setD .u64 C)) :
  Calls Tryz.prog 115 #[.map (some m)] w fun e w'=>e=.returned (.map (some w.heap.size))/\w'.ownsMap Tryz.prog 25 (plainElem Tryz.prog 4) w.heap.size C.length (Mp.setD .u64 C)/\Below w.heap.size w w'/\w'.heap.size=w.heap.size+1:=by
 obtain⟨es,u,G,F,I,z⟩:=h
 refine (AnyW.maps_Clone Sf.mbLays m es u w G).mono ?_
 rintro e w' ⟨rfl,rfl⟩
 exact⟨rfl,⟨es,u,(MapKept.heap_alloc w _).1,F,I,z⟩,(Below.refl _ w).alloc (Nat.le_refl _) _,by simp⟩
theorem own_scr {w w':World} {b m:Nat} {A:Option Addr} {k c:Nat} {O:List Bool} (h:w.ownsRow b 4 1 (.slice A k c) k (O.map Value.bool)) (F:Below w.heap.size w w') (I:w.heap.size<=m):Scr w' b m A k c O:=by
 have z:=Scr.of_own (m:=w.heap.size) h (Nat.le_refl _)
 have u:=z.same (w':=w') fun g _ G=>F.block g G
 exact⟨u.rd.more I,u.lo⟩
theorem new_any (A:Option Addr) (k c B:Nat) (O:List Bool) (A':Option Addr) (z I B':Nat) (P:List Bool) (w:World) (h:Rd Value.bool w B A k c O) (W:Rd Value.bool w B' A' z I P) (hB:B<=w.heap.size) (a7:B'<=w.heap.size) (hk:k<=1000) (a8:z<=1000) :
  Calls Tryz.prog 61 #[.slice A k c,.slice A' z I] w fun e w'=>∃ m p,e=.returned (ptr p)/\Fa w' w.heap.size m p O P 0 [] /\ Below w.heap.size w w':=by
 have a9:=@run_makeMap Tryz.prog
 have HR:=Lh h
 have a5:=Lh W
 clear h W
 go_enter Tryz.func61,Tryz.ntmps61
 go_wp2_with fail
 refine (bclone_any A k c O B _ HR.out hB (by omega)).mono ?_
 rintro e w1 ⟨A1,c1,rfl,a0,J⟩
 have a2:Rd Value.bool w1 B' A' z I P:=a5.out.keep fun p hp=>J.cell (by omega)
 have a6:=Lh a2
 have a3:=Lh a0
 have F:=Lh J
 clear a0 J a2
 go_wp2_with fail
 refine (bclone_any A' z I P B' _ a6.out (by have:=F.out.size; omega) (by omega)).mono ?_
 rintro e u ⟨A2,c2,rfl,a1,Y⟩
 have a4:=Lh (own_mono a1 F.out.size)
 have G:=Lh Y
 clear a1 Y
 go_wp2_with fail
 go_ret
 have Q:=F.out.trans (G.out.mono F.out.size)
 have hs:=Q.size
 refine⟨u.heap.size,u.heap.size+1,rfl,⟨⟨A1,k,c1,by go_simp,own_scr a3.out (G.out.trans ((((Below.refl u.heap.size u).alloc (Nat.le_refl _) _).alloc (by simp) _).mono G.out.size)) G.out.size⟩,⟨A2,z,c2,by go_simp,own_scr a4.out (((Below.refl u.heap.size u).alloc (Nat.le_refl _) _).alloc (by simp) _) (Nat.le_refl _)⟩,by go_simp,by go_simp,(World.ownsMap_made u _ _ _).alloc _,?_,hs,by omega,List.nodup_nil,fun x hx=>by cases hx⟩,Q.trans ((((Below.refl u.heap.size u).alloc (Nat.le_refl _) _).alloc (by simp) _).mono hs)⟩
 intro o
 simp
theorem awake10_any (w:World) (I:Tx.Tab w) :
  Calls Tryz.prog 347 #[] w fun e w'=>e=.returned (.bool true)/\Below w.heap.size w w':=by
 have Y:=Lh I
 clear I
 go_enter Tryz.func347,Tryz.ntmps347
 go_wp2_with fail
 refine (new_any _ 1 1 _ [false] none 0 0 0 [] _ (rd_one w false _) Rd.nil_ (by simp) (by omega) (by omega) (by omega)).mono ?_
 rintro e w1 ⟨m,p,rfl,h,J⟩
 have b1:Below w.heap.size w w1:=((Below.refl _ _).alloc (Nat.le_refl _) _).trans (J.mono (by simp))
 have a1:=h.lo
 have a2:=h.lt
 simp at a1
 clear J
 go_wp2_with fail
 refine (open_any p _ m 0 [false] [] [] _ h (by omega)).mono ?_
 rintro e w2 ⟨rfl,F,Q⟩
 have z:Below w.heap.size w w2:=b1.trans (Q.below b1.size (fun k hk=>by injection hk; omega) (fun k hk=>by injection hk; omega))
 clear h b1 Q
 simp only[nx] at F
 simp only[nx]
 go_wp2_with fail
 refine (open_any p _ m 0 [] [] [] _ F (by omega)).mono ?_
 rintro e w3 ⟨rfl,h3,W⟩
 have G:Below w.heap.size w w3:=z.trans (W.below z.size (fun k hk=>by injection hk; omega) (fun k hk=>by injection hk; omega))
 have u:=Lh G
 clear F h3 z G W
 simp only[nx]
 go_wp2_with fail
 refine (Hi.Awake9_any _ (Y.out.below u.out)).mono ?_
 rintro e w4 ⟨rfl,a0⟩
 go_wp2_with fail
 go_ret
 exact⟨rfl,u.out.trans (a0.mono u.out.size)⟩
end Go.Proofs.YtoiklelghfckgaaGreatDoor.Fc
end
