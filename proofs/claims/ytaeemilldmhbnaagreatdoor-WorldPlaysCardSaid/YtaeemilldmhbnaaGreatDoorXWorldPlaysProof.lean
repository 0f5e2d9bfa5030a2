/- It is proved that hackneylaw16.WorldPlays returns true for every input, and that each argument reads afterwards as it read before: the tied card: what the listed package-level variables (tables of the standard library) hold at the start is what the program's own text lays. Conditions: none beyond the given row and card. -/
import Derived.Test.YtaeemilldmhbnaaGreatDoorCards
import Derived.Test.YtaeemilldmhbnaaGreatDoorTie
import Derived.Test.YtaeemilldmhbnaaGreatDoorXWPlaysWalk
import Derived.Test.YtaeemilldmhbnaaGreatDoorXBase1
import Derived.WalkKit
import Derived.ProofKit
import Derived.OpenShut
import Derived.Deep.DeepHandedRow
import Derived.Lib.LaidTab
import Derived.LaidMore
import Derived.Lay
set_option maxRecDepth 100000
set_option maxHeartbeats 8000000
set_option linter.unusedVariables false
namespace Go.Proofs.YtaeemilldmhbnaaGreatDoor.worldPlays
open Go.ChangeShapes Go.WideShapes Go.ChangeAt Go.RowKit Go.Deep
theorem own:ownKnob Tryz.prog.godebug=none:=by kernel_rfl
theorem laidOut:laidOutB Tryz.prog=true:=by kernel_rfl
theorem at0:Rows.worldPlaysRow.laid[3]? = some ("internal/strconv.uint64pow10",Lib.tabData .u64 Lib.pow10Tab):=by kernel_rfl
theorem at1:Rows.worldPlaysRow.laid[4]? = some ("hackney/conf.keys",Tb.keyD):=by kernel_rfl
theorem at2:Rows.worldPlaysRow.laid[6]? = some ("internal/strconv.pow10Tab",Pinned.pow10Tab):=by kernel_rfl
theorem table {W:World} (h:laidMetH Tryz.prog Rows.worldPlaysRow.laid W):Tb.Tabs W:=by
 rw [MakeChecks.laidMetH_plain _ _ _ (by as_aux_lemma=>kernel_rfl)] at h
 exact Tb.tabs_of h (List.mem_of_getElem? at0) (List.mem_of_getElem? at2) (List.mem_of_getElem? at1)
theorem walk (H:Type) (enc:TypeId × Value→H) (W:World) (base:Nat) (I J N Y:Value) (d0 d1 d2 d3:DataW H) (p0 p1 p2 p3:List MemPlace) (hT:Tb.Tabs W)
  (k0:Value.okWide Tryz.prog W .any base 24 I)
  (k1:Value.okWide Tryz.prog W .any base 25 J)
  (k2:Value.okWide Tryz.prog W .any base 25 N)
  (k3:Value.okWide Tryz.prog W .any base 26 Y)
  (h0:DataW.Trod enc Tryz.prog W 0 (fun _=>true) true 24 I d0 p0)
  (h1:DataW.Trod enc Tryz.prog W 0 (fun _=>true) true 25 J d1 p1)
  (h2:DataW.Trod enc Tryz.prog W 0 (fun _=>true) true 25 N d2 p2)
  (h3:DataW.Trod enc Tryz.prog W 0 (fun _=>true) true 26 Y d3 p3)
  : Calls Tryz.prog 3 #[I,J,N,Y] W fun e w'=>e=.returned (.bool true)∧Below W.heap.size W w':=by
 obtain ⟨c,rfl,hc⟩:=Cn.open_raw k0 h0
 obtain ⟨A,n,cc,O,rfl,h⟩:=Fc.bools_open Tryz.underlying25 Tryz.underlying4 (by kernel_rfl) k1 h1
 obtain ⟨A1,G,c1,P,rfl,z⟩:=Fc.bools_open Tryz.underlying25 Tryz.underlying4 (by kernel_rfl) k2 h2
 obtain ⟨A',F,c',xs,rfl,u,a0⟩:=Wo.open_acts k3 h3
 by_cases hl:n≤60∧G≤60∧F≤80
 ·exact Wo.plays_any c hc A n cc O A1 G c1 P A' F c' xs W hT h z u a0 hl.2.2 hl.1 hl.2.1
 ·exact Wo.plays_long c A n cc A1 G c1 A' F c' W hT (by have:=h.cap; have:=h.top; omega) (by have:=z.cap; have:=z.top; omega) (by have:=u.cap; have:=u.top; omega) (by omega)
theorem contract (H:Type) (enc:TypeId × Value→H) (W:World) (base:Nat) (args:Array Value) (J gs:List (DataW H)) (Y:List MemPlace)
  (h:∀ (j:Nat) t v,Tryz.f3.params[j]? = some t→args[j]? = some v→Value.okWide Tryz.prog W .any base t v)
  (N:DataW.Whole enc Tryz.prog Tryz.f3.params.toList Rows.worldPlaysSpec.vars false W args.toList J gs Y) (hL:laidMetH Tryz.prog Rows.worldPlaysRow.laid W) :
  Calls Tryz.prog 3 args W fun e I=>∃ v,e=.returned v∧Rows.worldPlaysSpec.post enc Tryz.prog Tryz.f3 false true false false W args v I:=by
 have a1:=N
 obtain ⟨p,q,a0,hV,rfl,a7,a8⟩:=N
 have hA:DataW.TrodAll enc Tryz.prog W 0 (fun _=>true) true Tryz.f3.params.toList args.toList J p:=a0
 rw [Tryz.params3] at hA h
 obtain ⟨u,a9,d0,a2,p0,q0,a6,rfl,rfl,h0,r0⟩:=trodAll_cons hA
 obtain ⟨z,aa,d1,a3,p1,q1,rfl,rfl,rfl,h1,r1⟩:=trodAll_cons r0
 obtain ⟨F,ac,d2,a4,p2,q2,rfl,rfl,rfl,h2,r2⟩:=trodAll_cons r1
 obtain ⟨G,ad,d3,a5,p3,q3,rfl,rfl,rfl,h3,r3⟩:=trodAll_cons r2
 obtain ⟨rfl,rfl,rfl⟩:=trodAll_nil r3
 obtain rfl:args=#[u,z,F,G]:=by cases args; simp_all
 obtain ⟨rfl,rfl⟩:=trodVars_none hV
 refine (walk H enc W base u z F G d0 d1 d2 d3 p0 p1 p2 p3 (table hL) (h 0 _ u rfl rfl) (h 1 _ z rfl rfl) (h 2 _ F rfl rfl) (h 3 _ G rfl rfl) h0 h1 h2 h3).mono fun e I ⟨he,hb⟩=>?_
 subst he
 exact ⟨_,rfl,Lw.law_post laidOut (by kernel_rfl) (by kernel_rfl) Tryz.underlying4 rfl rfl a1 hb⟩
theorem fits (os:Os):(World.holding Tryz.prog os ⟨#[],#[],[]⟩).layFits Tryz.prog Rows.worldPlaysRow.laid [] = true:=by kernel_rfl
theorem ifaces (os:Os):(World.holding Tryz.prog os ⟨#[],#[],[]⟩).layIfaces Tryz.prog Rows.worldPlaysRow.laid (World.laidAll Tryz.prog os Rows.worldPlaysRow.laid)=true:=by kernel_rfl
theorem laid_met (os:Os):laidMet Tryz.prog Rows.worldPlaysRow.laid ((World.laidAll Tryz.prog os Rows.worldPlaysRow.laid).forCall (fun _ _=>0) ⟨#[],#[.agg #[.int .i64 0,.int .i64 0,.int .u64 0,.int .u64 0,.int .u64 0,.int .u64 0,.int .u64 0],.slice none 0 0,.slice none 0 0,.slice none 0 0],[]⟩).memory:=
 laidMet_laidAll _ (fits os) (ifaces os)
theorem zip1 (os:Os):((World.laidAll Tryz.prog os Rows.worldPlaysRow.laid).forCall (fun _ _=>0) ⟨#[],#[.agg #[.int .i64 0,.int .i64 0,.int .u64 0,.int .u64 0,.int .u64 0,.int .u64 0,.int .u64 0],.slice none 0 0,.slice none 0 0,.slice none 0 0],[]⟩).variablesZipB Tryz.prog=true:=by kernel_rfl
theorem zip2 (os:Os):(((World.laidAll Tryz.prog os Rows.worldPlaysRow.laid).forCall (fun _ _=>0) ⟨#[],#[.agg #[.int .i64 0,.int .i64 0,.int .u64 0,.int .u64 0,.int .u64 0,.int .u64 0,.int .u64 0],.slice none 0 0,.slice none 0 0,.slice none 0 0],[]⟩).heap.toList.drop Tryz.prog.globals.size).take ((begin Tryz.prog (fun _ _=>0) default).world.heap.size - Tryz.prog.globals.size) =
  (begin Tryz.prog (fun _ _=>0) default).world.heap.toList.drop Tryz.prog.globals.size:=by kernel_rfl
theorem okw (os:Os):Input.okWideB Tryz.prog ((World.laidAll Tryz.prog os Rows.worldPlaysRow.laid).forCall (fun _ _=>0) ⟨#[],#[.agg #[.int .i64 0,.int .i64 0,.int .u64 0,.int .u64 0,.int .u64 0,.int .u64 0,.int .u64 0],.slice none 0 0,.slice none 0 0,.slice none 0 0],[]⟩) 3 ⟨#[],#[.agg #[.int .i64 0,.int .i64 0,.int .u64 0,.int .u64 0,.int .u64 0,.int .u64 0,.int .u64 0],.slice none 0 0,.slice none 0 0,.slice none 0 0],[]⟩=true:=by kernel_rfl
theorem reads (w:World) {H:Type} (enc:TypeId × Value→H):DataW.whole enc Tryz.prog w Tryz.f3.params.toList Rows.worldPlaysSpec.vars false (#[.agg #[.int .i64 0,.int .i64 0,.int .u64 0,.int .u64 0,.int .u64 0,.int .u64 0,.int .u64 0],.slice none 0 0,.slice none 0 0,.slice none 0 0] : Array Value).toList 8=some ([.agg [.lit (.int .i64 0),.lit (.int .i64 0),.lit (.int .u64 0),.lit (.int .u64 0),.lit (.int .u64 0),.lit (.int .u64 0),.lit (.int .u64 0)],.nil,.nil,.nil],[],[]):=by kernel_rfl
theorem sized (w:World) {H:Type} (enc:TypeId × Value→H):(OpenSpec.ofChange Rows.worldPlaysSpec).bare.sizedB enc Tryz.prog Tryz.f3 false w #[.agg #[.int .i64 0,.int .i64 0,.int .u64 0,.int .u64 0,.int .u64 0,.int .u64 0,.int .u64 0],.slice none 0 0,.slice none 0 0,.slice none 0 0] 8=true:=by kernel_rfl
theorem conds {H:Type} : Rows.worldPlaysRow.domain.all (PathCond.test Tryz.prog ⟨Tryz.f3.params.toList,([.agg [.lit (.int .i64 0),.lit (.int .i64 0),.lit (.int .u64 0),.lit (.int .u64 0),.lit (.int .u64 0),.lit (.int .u64 0),.lit (.int .u64 0)],.nil,.nil,.nil] : List (DataW H)),(OpenSpec.ofChange Rows.worldPlaysSpec).bare.plain.varTypes Tryz.prog,[]⟩)=true:=by kernel_rfl
theorem lifted (os:Os) (N:os.Started) (H:Type) (enc:TypeId × Value→H) (F:Stop.Interp) :
  ReturnsInHanded {} Tryz.checked os 3 .any ((OpenSpec.ofChange Rows.worldPlaysSpec).preRow enc Tryz.prog Tryz.f3 Rows.worldPlaysRow.domain false Rows.worldPlaysRow.laid) (((OpenSpec.ofChange Rows.worldPlaysSpec).at F).post enc Tryz.prog Tryz.f3 false true false false):=by
 refine returnsInHanded_of_row (C:=Tryz.checked) (s:=OpenSpec.ofChange Rows.worldPlaysSpec) own N (by as_aux_lemma=>kernel_rfl) Tryz.func3
  ⟨(World.laidAll Tryz.prog os Rows.worldPlaysRow.laid),fun _ _=>0,⟨#[],#[.agg #[.int .i64 0,.int .i64 0,.int .u64 0,.int .u64 0,.int .u64 0,.int .u64 0,.int .u64 0],.slice none 0 0,.slice none 0 0,.slice none 0 0],[]⟩,World.laidAll_os _ _ _,World.shaped_of_ZipB (zip1 os) (zip2 os),(Input.okWide_of_okWideB (base:=0) (okw os)).1,(Input.okWide_of_okWideB (okw os)).2,
   OpenSpec.preRow_of_cond 8 (reads _ enc) conds (fun k hk=>by cases hk) (sized _ enc) (by rw [MakeChecks.laidMetH_plain _ _ _ (by as_aux_lemma=>kernel_rfl)]; exact laid_met os),by
   simp only [Assume.holds]
   exact ⟨by simp,by simp,fun _=>Modest.zero,by simp,by simp⟩⟩ ?_
 intro W base args u z h J I _ _ _ G _ _
 exact contract H enc W base args u z h J I G
theorem and_t {a b:Bool} (ha:a=true) (h:b=true):(a && b)=true:=by rw [ha,h]; rfl
theorem fact0:(Rows.worldPlaysRow.wf (OpenSpec.ofChange Rows.worldPlaysSpec))=true:=by kernel_rfl
theorem fact1:(laidOutB Tryz.pinned.checked.prog)=true:=by kernel_rfl
theorem fact2:(mapsRowed Tryz.pinned.checked.prog)=true:=by kernel_rfl
theorem fact3:(Tryz.f3.params.all (Tryz.pinned.checked.prog.readableRec ·))=true:=by kernel_rfl
theorem fact4:(namedTie Tryz.pinned.checked.prog Rows.worldPlaysRow.named Rows.worldPlaysSpec.vars)=true:=by kernel_rfl
theorem fact5:(Rows.worldPlaysRow.stops == [])=true:=by kernel_rfl
theorem fact6:(Tryz.pinned.checked.prog.stops == [])=true:=by kernel_rfl
theorem fact7:(Rows.worldPlaysRow.knobs == [])=true:=by kernel_rfl
theorem fact8:(Tryz.pinned.checked.prog.stopKnobs == [])=true:=by kernel_rfl
theorem fact9:(Rows.worldPlaysRow.inPlace == Tryz.pinned.checked.prog.inPlace 3)=true:=by kernel_rfl
theorem fact10:(Rows.worldPlaysRow.unfollowed == Tryz.pinned.checked.prog.unfollowed 3)=true:=by kernel_rfl
theorem fact11:(Rows.worldPlaysRow.recurses == Tryz.pinned.checked.prog.recurses 3)=true:=by kernel_rfl
theorem fact12:(Rows.worldPlaysRow.named == Tryz.pinned.checked.prog.varsNamed 3)=true:=by kernel_rfl
theorem fact13:(Rows.worldPlaysRow.maps == (Tryz.f3.params.toList ++ Rows.worldPlaysSpec.plain.varTypes Tryz.pinned.checked.prog).any (Tryz.pinned.checked.prog.mapsRec ·))=true:=by kernel_rfl
theorem fact14:(Rows.worldPlaysRow.ifaces == (Tryz.f3.params.toList ++ Rows.worldPlaysSpec.plain.varTypes Tryz.pinned.checked.prog).any (Tryz.pinned.checked.prog.ifacesRec ·))=true:=by kernel_rfl
theorem fact15:(Rows.worldPlaysRow.mapsOut == Tryz.pinned.checked.prog.mapsAmong Tryz.f3.resultTypes.toList)=true:=by kernel_rfl
theorem fact16:(Rows.worldPlaysRow.loops == (Tryz.f3.params.toList ++ Rows.worldPlaysSpec.plain.varTypes Tryz.pinned.checked.prog).any (Tryz.pinned.checked.prog.loopsFrom ·))=true:=by kernel_rfl
theorem fact17:(Rows.worldPlaysRow.wideKeys == (Tryz.f3.params.toList ++ Rows.worldPlaysSpec.plain.varTypes Tryz.pinned.checked.prog ++ Tryz.f3.resultTypes.toList).any (Tryz.pinned.checked.prog.wideKeysFrom ·))=true:=by kernel_rfl
theorem fact18:(Rows.worldPlaysSpec.vars.all (Tryz.pinned.checked.prog.varReadable ·))=true:=by kernel_rfl
theorem fact19:(Tryz.f3.resultTypes.all (fun t=>Tryz.pinned.checked.prog.readableRec t && decide (t < Tryz.pinned.checked.prog.types.size)))=true:=by kernel_rfl
theorem fact20:(Rows.worldPlaysRow.ifacesOut == Tryz.f3.resultTypes.toList.any (Tryz.pinned.checked.prog.ifacesRec ·))=true:=by kernel_rfl
theorem fact21:(Rows.worldPlaysRow.loopsOut == Tryz.f3.resultTypes.toList.any (Tryz.pinned.checked.prog.loopsFrom ·))=true:=by kernel_rfl
theorem fact22:(Rows.worldPlaysRow.plainKeys == Tryz.pinned.checked.prog.plainKeys)=true:=by kernel_rfl
theorem fact23:(Rows.worldPlaysRow.shortTexts.isNone)=true:=by kernel_rfl
theorem fact24:(Tryz.pinned.checked.prog.stopsHeard)=true:=by kernel_rfl
theorem fact25:(Tryz.pinned.checked.prog.mayEnter)=true:=by kernel_rfl
theorem fact26:(Rows.worldPlaysRow.lifted == Tryz.pinned.checked.prog.liftsFinal)=true:=by kernel_rfl
theorem fact27:(Tryz.pinned.checked.prog.make == some Rows.worldPlaysRow.make)=true:=by kernel_rfl
theorem fact28:(Rows.worldPlaysRow.kinds == (if Rows.worldPlaysRow.domain.isEmpty then [] else Tryz.f3.params.toList.map fun t=>match Tryz.pinned.checked.prog.underlying t with | some (.int k)=>some k | _=>none))=true:=by kernel_rfl
theorem fact29:(Rows.worldPlaysRow.pinned == Rows.worldPlaysRow.pinnedBy)=true:=by kernel_rfl
theorem fact30:(Rows.worldPlaysRow.veiled == (Tryz.f3.params.toList ++ Rows.worldPlaysSpec.plain.varTypes Tryz.pinned.checked.prog ++ Tryz.f3.resultTypes.toList).any (Tryz.pinned.checked.prog.veiledRec ·))=true:=by kernel_rfl
theorem fact31:(Rows.worldPlaysRow.veiledFits Tryz.pinned.checked.prog Tryz.f3.params.toList (Tryz.f3.params.toList ++ Rows.worldPlaysSpec.plain.varTypes Tryz.pinned.checked.prog ++ Tryz.f3.resultTypes.toList))=true:=by kernel_rfl
theorem facts:joinedFacts Tryz.pinned.checked.prog 3 Tryz.f3 Rows.worldPlaysSpec Rows.worldPlaysRow=true:=(and_t (and_t (and_t (and_t (and_t (and_t (and_t (and_t (and_t (and_t (and_t (and_t (and_t (and_t (and_t (and_t (and_t (and_t (and_t (and_t (and_t (and_t (and_t (and_t (and_t (and_t (and_t (and_t (and_t (and_t (and_t fact0 fact1) fact2) fact3) fact4) fact5) fact6) fact7) fact8) fact9) fact10) fact11) fact12) fact13) fact14) fact15) fact16) fact17) fact18) fact19) fact20) fact21) fact22) fact23) fact24) fact25) fact26) fact27) fact28) fact29) fact30) fact31)
theorem said:Rows.WorldPlaysSaid:=
 OpenClaim.holds_of_cond 3 Tryz.f3 rfl rfl rfl rfl rfl rfl rfl ⟨rfl,rfl,rfl,rfl,rfl⟩ rfl rfl rfl rfl rfl (by as_aux_lemma=>kernel_rfl) Tryz.func3 facts
  (of_decide_eq_true (by as_aux_lemma=>kernel_rfl)) (by unfold Func.isWrapper; first | (rw [if_pos (by decide +kernel)]; kernel_rfl) | (rw [if_neg (by decide +kernel)]; exact ⟨rfl,rfl⟩))
  (fun os h H enc _ F=>by rw [OpenClaim.pre_eq_preRow]; exact lifted os h H enc F)
theorem plain (f:FuncId) (fn:Func) (F:Tryz.pinned.checked.prog.funcNamed "hackney/hackneylaw16.WorldPlays" = some f) (G:Tryz.pinned.checked.prog.funcs[f]? = some fn) :
  true=Tryz.pinned.checked.prog.looks [] ∧ ∀ (j:Nat) t,fn.params[j]? = some t→Tryz.pinned.checked.prog.wantsStandIn t=false:=by
 obtain rfl:f=3:=Option.some.inj ((show Tryz.prog.funcNamed "hackney/hackneylaw16.WorldPlays" = some 3 by kernel_rfl).symm.trans F) |>.symm
 obtain rfl:fn=Tryz.f3:=(Option.some.inj (Tryz.func3.symm.trans G)).symm
 refine ⟨by kernel_rfl,fun j t h=>?_⟩
 rw [Tryz.params3] at h
 have I:t∈([24,25,25,26] : List Nat):=by simpa using Array.mem_of_getElem? h
 have z:(([24,25,25,26] : List Nat).all fun u=>!Tryz.prog.wantsStandIn u)=true:=by kernel_rfl
 exact (show Tryz.prog.wantsStandIn t=false by simpa using List.all_eq_true.1 z t I)
theorem proved:Rows.WorldPlaysCardSaid:=
 Claim7.holds_tied_plain_at .later [] _ _ _ _ said (fun _ h=>by cases h) (by as_aux_lemma=>kernel_rfl) (fun _ h=>by cases h) worldPlays_row_tie rfl ⟨rfl,rfl⟩ (by as_aux_lemma=>kernel_rfl) rfl plain (by as_aux_lemma=>kernel_rfl)
#print axioms proved
end Go.Proofs.YtaeemilldmhbnaaGreatDoor.worldPlays
