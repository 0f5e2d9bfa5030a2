/- It is proved that hackneylaw21.McloseAll returns true for every input, and that each argument reads afterwards as it read before: the tied card: what the listed package-level variables (tables of the standard library) hold at the start is what the program's own text lays. Conditions: none beyond the given row and card. -/
import Derived.Test.YtoiklelghfckgaaGreatDoorCards
import Derived.Test.YtoiklelghfckgaaGreatDoorTie
import Derived.WalkKit
import Derived.ProofKit
import Derived.OpenShut
import Derived.Deep.DeepHandedRow
import Derived.Lib.LaidTab
import Derived.LaidMore
import Derived.Lay
import Derived.Test.YtoiklelghfckgaaGreatDoorYK12
set_option maxRecDepth 100000
set_option maxHeartbeats 8000000
set_option linter.unusedVariables false
namespace Go.Proofs.YtoiklelghfckgaaGreatDoor.mcloseAll
open Go.ChangeShapes Go.WideShapes Go.ChangeAt Go.RowKit Go.Deep
theorem own:ownKnob Tryz.prog.godebug=none:=by kernel_rfl
theorem laidOut:laidOutB Tryz.prog=true:=by kernel_rfl
theorem at0:Rows.mcloseAllRow.laid[3]? = some ("internal/strconv.uint64pow10",Lib.tabData .u64 Lib.pow10Tab):=by kernel_rfl
theorem at1:Rows.mcloseAllRow.laid[4]? = some ("hackney/conf.keys",Tb.keyD):=by kernel_rfl
theorem at2:Rows.mcloseAllRow.laid[6]? = some ("internal/strconv.pow10Tab",Pinned.pow10Tab):=by kernel_rfl
theorem table {W:World} (h:laidMetH Tryz.prog Rows.mcloseAllRow.laid W):Tb.Tabs W:=by
 rw[MakeChecks.laidMetH_plain _ _ _ (by as_aux_lemma=>kernel_rfl)] at h
 exact Tb.tabs_of h (List.mem_of_getElem? at0) (List.mem_of_getElem? at2) (List.mem_of_getElem? at1)
theorem walk (H:Type) (enc:TypeId × Value->H) (W:World) (base:Nat) (G I:Value) (Y d1:DataW H) (p0 p1:List MemPlace) (Q:Tb.Tabs W)
  (k0:Value.okWide Tryz.prog W .any base 22 G)
  (k1:Value.okWide Tryz.prog W .any base 22 I)
  (h0:DataW.Trod enc Tryz.prog W 0 (fun _=>true) true 22 G Y p0)
  (h1:DataW.Trod enc Tryz.prog W 0 (fun _=>true) true 22 I d1 p1)
  : Calls Tryz.prog 4 #[G,I] W fun e w'=>e=.returned (.bool true)/\Below W.heap.size W w':=by
 obtain⟨A,F,c,xs,rfl,h,hw⟩:=Rw.Rd.open_ Tryz.underlying22 Tryz.underlying5 (by kernel_rfl) k0 h0
 obtain⟨A',nw,J,ys,rfl,u,a0⟩:=Rw.Rd.open_ Tryz.underlying22 Tryz.underlying5 (by kernel_rfl) k1 h1
 by_cases hl:F<=6/\nw<=5
 .exact Wo.closeall_any W Q A A' F c nw J xs ys h u (fun y z=>Wd.lo_u8 (hw y z)) (fun y z=>Wd.lo_u8 (a0 y z)) hl.1 hl.2
 .exact Wo.closeall_long W Q A A' F c nw J (by have:=h.cap; have:=h.top; omega) (by have:=u.cap; have:=u.top; omega) (by omega)
theorem contract (H:Type) (enc:TypeId × Value->H) (W:World) (base:Nat) (args:Array Value) (G gs:List (DataW H)) (J:List MemPlace)
  (h:∀ (j:Nat) t v,Tryz.f4.params[j]? = some t->args[j]? = some v->Value.okWide Tryz.prog W .any base t v)
  (I:DataW.Whole enc Tryz.prog Tryz.f4.params.toList Rows.mcloseAllSpec.vars false W args.toList G gs J) (hL:laidMetH Tryz.prog Rows.mcloseAllRow.laid W) :
  Calls Tryz.prog 4 args W fun e F=>∃ v,e=.returned v/\Rows.mcloseAllSpec.post enc Tryz.prog Tryz.f4 false true false false W args v F:=by
 have a1:=I
 obtain⟨p,q,a0,hV,rfl,a5,a6⟩:=I
 have hA:DataW.TrodAll enc Tryz.prog W 0 (fun _=>true) true Tryz.f4.params.toList args.toList G p:=a0
 rw[Tryz.params4] at hA h
 obtain⟨u,a7,Q,a2,p0,q0,a4,rfl,rfl,h0,r0⟩:=trodAll_cons hA
 obtain⟨z,a8,Y,a3,p1,q1,rfl,rfl,rfl,h1,r1⟩:=trodAll_cons r0
 obtain⟨rfl,rfl,rfl⟩:=trodAll_nil r1
 obtain rfl:args=#[u,z]:=by cases args; simp_all
 obtain⟨rfl,rfl⟩:=trodVars_none hV
 refine (walk H enc W base u z Q Y p0 p1 (table hL) (h 0 _ u rfl rfl) (h 1 _ z rfl rfl) h0 h1).mono fun e F ⟨he,hb⟩=>?_
 subst he
 exact⟨_,rfl,Lw.law_post laidOut (by kernel_rfl) (by kernel_rfl) Tryz.underlying4 rfl rfl a1 hb⟩
theorem fits (os:Os):(World.holding Tryz.prog os ⟨#[],#[],[]⟩).layFits Tryz.prog Rows.mcloseAllRow.laid [] = true:=by kernel_rfl
theorem ifaces (os:Os):(World.holding Tryz.prog os ⟨#[],#[],[]⟩).layIfaces Tryz.prog Rows.mcloseAllRow.laid (World.laidAll Tryz.prog os Rows.mcloseAllRow.laid)=true:=by kernel_rfl
theorem laid_met (os:Os):laidMet Tryz.prog Rows.mcloseAllRow.laid ((World.laidAll Tryz.prog os Rows.mcloseAllRow.laid).forCall (fun _ _=>0) ⟨#[],#[.slice none 0 0,.slice none 0 0],[]⟩).memory:=
 laidMet_laidAll _ (fits os) (ifaces os)
theorem zip1 (os:Os):((World.laidAll Tryz.prog os Rows.mcloseAllRow.laid).forCall (fun _ _=>0) ⟨#[],#[.slice none 0 0,.slice none 0 0],[]⟩).variablesZipB Tryz.prog=true:=by kernel_rfl
theorem zip2 (os:Os):(((World.laidAll Tryz.prog os Rows.mcloseAllRow.laid).forCall (fun _ _=>0) ⟨#[],#[.slice none 0 0,.slice none 0 0],[]⟩).heap.toList.drop Tryz.prog.globals.size).take ((begin Tryz.prog (fun _ _=>0) default).world.heap.size - Tryz.prog.globals.size) =
  (begin Tryz.prog (fun _ _=>0) default).world.heap.toList.drop Tryz.prog.globals.size:=by kernel_rfl
theorem okw (os:Os):Input.okWideB Tryz.prog ((World.laidAll Tryz.prog os Rows.mcloseAllRow.laid).forCall (fun _ _=>0) ⟨#[],#[.slice none 0 0,.slice none 0 0],[]⟩) 4 ⟨#[],#[.slice none 0 0,.slice none 0 0],[]⟩=true:=by kernel_rfl
theorem reads (w:World) {H:Type} (enc:TypeId × Value->H):DataW.whole enc Tryz.prog w Tryz.f4.params.toList Rows.mcloseAllSpec.vars false (#[.slice none 0 0,.slice none 0 0] : Array Value).toList 8=some ([.nil,.nil],[],[]):=by kernel_rfl
theorem sized (w:World) {H:Type} (enc:TypeId × Value->H):(OpenSpec.ofChange Rows.mcloseAllSpec).bare.sizedB enc Tryz.prog Tryz.f4 false w #[.slice none 0 0,.slice none 0 0] 8=true:=by kernel_rfl
theorem conds {H:Type} : Rows.mcloseAllRow.domain.all (PathCond.test Tryz.prog ⟨Tryz.f4.params.toList,([.nil,.nil] : List (DataW H)),(OpenSpec.ofChange Rows.mcloseAllSpec).bare.plain.varTypes Tryz.prog,[]⟩)=true:=by kernel_rfl
theorem lifted (os:Os) (Q:os.Started) (H:Type) (enc:TypeId × Value->H) (F:Stop.Interp) :
  ReturnsInHanded {} Tryz.checked os 4 .any ((OpenSpec.ofChange Rows.mcloseAllSpec).preRow enc Tryz.prog Tryz.f4 Rows.mcloseAllRow.domain false Rows.mcloseAllRow.laid) (((OpenSpec.ofChange Rows.mcloseAllSpec).at F).post enc Tryz.prog Tryz.f4 false true false false):=by
 refine returnsInHanded_of_row (C:=Tryz.checked) (s:=OpenSpec.ofChange Rows.mcloseAllSpec) own Q (by as_aux_lemma=>kernel_rfl) Tryz.func4
  ⟨(World.laidAll Tryz.prog os Rows.mcloseAllRow.laid),fun _ _=>0,⟨#[],#[.slice none 0 0,.slice none 0 0],[]⟩,World.laidAll_os _ _ _,World.shaped_of_ZipB (zip1 os) (zip2 os),(Input.okWide_of_okWideB (base:=0) (okw os)).1,(Input.okWide_of_okWideB (okw os)).2,
   OpenSpec.preRow_of_cond 8 (reads _ enc) conds (fun k hk=>by cases hk) (sized _ enc) (by rw[MakeChecks.laidMetH_plain _ _ _ (by as_aux_lemma=>kernel_rfl)]; exact laid_met os),by
   simp only[Assume.holds]
   exact⟨by simp,by simp,fun _=>Modest.zero,by simp,by simp⟩⟩ ?_
 intro W base args u z h J I _ _ _ G _ _
 exact contract H enc W base args u z h J I G
theorem and_t {a b:Bool} (ha:a=true) (h:b=true):(a && b)=true:=by rw[ha,h]; rfl
theorem fact0:(Rows.mcloseAllRow.wf (OpenSpec.ofChange Rows.mcloseAllSpec))=true:=by kernel_rfl
theorem fact1:(laidOutB Tryz.pinned.checked.prog)=true:=by kernel_rfl
theorem fact2:(mapsRowed Tryz.pinned.checked.prog)=true:=by kernel_rfl
theorem fact3:(Tryz.f4.params.all (Tryz.pinned.checked.prog.readableRec ·))=true:=by kernel_rfl
theorem fact4:(namedTie Tryz.pinned.checked.prog Rows.mcloseAllRow.named Rows.mcloseAllSpec.vars)=true:=by kernel_rfl
theorem fact5:(Rows.mcloseAllRow.stops == [])=true:=by kernel_rfl
theorem fact6:(Tryz.pinned.checked.prog.stops == [])=true:=by kernel_rfl
theorem fact7:(Rows.mcloseAllRow.knobs == [])=true:=by kernel_rfl
theorem fact8:(Tryz.pinned.checked.prog.stopKnobs == [])=true:=by kernel_rfl
theorem fact9:(Rows.mcloseAllRow.inPlace == Tryz.pinned.checked.prog.inPlace 4)=true:=by kernel_rfl
theorem fact10:(Rows.mcloseAllRow.unfollowed == Tryz.pinned.checked.prog.unfollowed 4)=true:=by kernel_rfl
theorem fact11:(Rows.mcloseAllRow.recurses == Tryz.pinned.checked.prog.recurses 4)=true:=by kernel_rfl
theorem fact12:(Rows.mcloseAllRow.named == Tryz.pinned.checked.prog.varsNamed 4)=true:=by kernel_rfl
theorem fact13:(Rows.mcloseAllRow.maps == (Tryz.f4.params.toList ++ Rows.mcloseAllSpec.plain.varTypes Tryz.pinned.checked.prog).any (Tryz.pinned.checked.prog.mapsRec ·))=true:=by kernel_rfl
theorem fact14:(Rows.mcloseAllRow.ifaces == (Tryz.f4.params.toList ++ Rows.mcloseAllSpec.plain.varTypes Tryz.pinned.checked.prog).any (Tryz.pinned.checked.prog.ifacesRec ·))=true:=by kernel_rfl
theorem fact15:(Rows.mcloseAllRow.mapsOut == Tryz.pinned.checked.prog.mapsAmong Tryz.f4.resultTypes.toList)=true:=by kernel_rfl
theorem fact16:(Rows.mcloseAllRow.loops == (Tryz.f4.params.toList ++ Rows.mcloseAllSpec.plain.varTypes Tryz.pinned.checked.prog).any (Tryz.pinned.checked.prog.loopsFrom ·))=true:=by kernel_rfl
theorem fact17:(Rows.mcloseAllRow.wideKeys == (Tryz.f4.params.toList ++ Rows.mcloseAllSpec.plain.varTypes Tryz.pinned.checked.prog ++ Tryz.f4.resultTypes.toList).any (Tryz.pinned.checked.prog.wideKeysFrom ·))=true:=by kernel_rfl
theorem fact18:(Rows.mcloseAllSpec.vars.all (Tryz.pinned.checked.prog.varReadable ·))=true:=by kernel_rfl
theorem fact19:(Tryz.f4.resultTypes.all (fun t=>Tryz.pinned.checked.prog.readableRec t && decide (t < Tryz.pinned.checked.prog.types.size)))=true:=by kernel_rfl
theorem fact20:(Rows.mcloseAllRow.ifacesOut == Tryz.f4.resultTypes.toList.any (Tryz.pinned.checked.prog.ifacesRec ·))=true:=by kernel_rfl
theorem fact21:(Rows.mcloseAllRow.loopsOut == Tryz.f4.resultTypes.toList.any (Tryz.pinned.checked.prog.loopsFrom ·))=true:=by kernel_rfl
theorem fact22:(Rows.mcloseAllRow.plainKeys == Tryz.pinned.checked.prog.plainKeys)=true:=by kernel_rfl
theorem fact23:(Rows.mcloseAllRow.shortTexts.isNone)=true:=by kernel_rfl
theorem fact24:(Tryz.pinned.checked.prog.stopsHeard)=true:=by kernel_rfl
theorem fact25:(Tryz.pinned.checked.prog.mayEnter)=true:=by kernel_rfl
theorem fact26:(Rows.mcloseAllRow.lifted == Tryz.pinned.checked.prog.liftsFinal)=true:=by kernel_rfl
theorem fact27:(Tryz.pinned.checked.prog.make == some Rows.mcloseAllRow.make)=true:=by kernel_rfl
theorem fact28:(Rows.mcloseAllRow.kinds == (if Rows.mcloseAllRow.domain.isEmpty then [] else Tryz.f4.params.toList.map fun t=>match Tryz.pinned.checked.prog.underlying t with | some (.int k)=>some k | _=>none))=true:=by kernel_rfl
theorem fact29:(Rows.mcloseAllRow.pinned == Rows.mcloseAllRow.pinnedBy)=true:=by kernel_rfl
theorem fact30:(Rows.mcloseAllRow.veiled == (Tryz.f4.params.toList ++ Rows.mcloseAllSpec.plain.varTypes Tryz.pinned.checked.prog ++ Tryz.f4.resultTypes.toList).any (Tryz.pinned.checked.prog.veiledRec ·))=true:=by kernel_rfl
theorem fact31:(Rows.mcloseAllRow.veiledFits Tryz.pinned.checked.prog Tryz.f4.params.toList (Tryz.f4.params.toList ++ Rows.mcloseAllSpec.plain.varTypes Tryz.pinned.checked.prog ++ Tryz.f4.resultTypes.toList))=true:=by kernel_rfl
theorem facts:joinedFacts Tryz.pinned.checked.prog 4 Tryz.f4 Rows.mcloseAllSpec Rows.mcloseAllRow=true:=(and_t (and_t (and_t (and_t (and_t (and_t (and_t (and_t (and_t (and_t (and_t (and_t (and_t (and_t (and_t (and_t (and_t (and_t (and_t (and_t (and_t (and_t (and_t (and_t (and_t (and_t (and_t (and_t (and_t (and_t (and_t fact0 fact1) fact2) fact3) fact4) fact5) fact6) fact7) fact8) fact9) fact10) fact11) fact12) fact13) fact14) fact15) fact16) fact17) fact18) fact19) fact20) fact21) fact22) fact23) fact24) fact25) fact26) fact27) fact28) fact29) fact30) fact31)
theorem said:Rows.McloseAllSaid:=
 OpenClaim.holds_of_cond 4 Tryz.f4 rfl rfl rfl rfl rfl rfl rfl ⟨rfl,rfl,rfl,rfl,rfl⟩ rfl rfl rfl rfl rfl (by as_aux_lemma=>kernel_rfl) Tryz.func4 facts
  (of_decide_eq_true (by as_aux_lemma=>kernel_rfl)) (by unfold Func.isWrapper; first | (rw[if_pos (by decide +kernel)]; kernel_rfl) | (rw[if_neg (by decide +kernel)]; exact⟨rfl,rfl⟩))
  (fun os h H enc _ F=>by rw[OpenClaim.pre_eq_preRow]; exact lifted os h H enc F)
theorem plain (f:FuncId) (fn:Func) (F:Tryz.pinned.checked.prog.funcNamed "hackney/hackneylaw21.McloseAll" = some f) (G:Tryz.pinned.checked.prog.funcs[f]? = some fn) :
  true=Tryz.pinned.checked.prog.looks [] /\ ∀ (j:Nat) t,fn.params[j]? = some t->Tryz.pinned.checked.prog.wantsStandIn t=false:=by
 obtain rfl:f=4:=Option.some.inj ((show Tryz.prog.funcNamed "hackney/hackneylaw21.McloseAll" = some 4 by kernel_rfl).symm.trans F) |>.symm
 obtain rfl:fn=Tryz.f4:=(Option.some.inj (Tryz.func4.symm.trans G)).symm
 refine⟨by kernel_rfl,fun j t h=>?_⟩
 rw[Tryz.params4] at h
 have I:t∈([22,22] : List Nat):=by simpa using Array.mem_of_getElem? h
 have z:(([22,22] : List Nat).all fun u=>!Tryz.prog.wantsStandIn u)=true:=by kernel_rfl
 exact (show Tryz.prog.wantsStandIn t=false by simpa using List.all_eq_true.1 z t I)
theorem proved:Rows.McloseAllCardSaid:=
 Claim7.holds_tied_plain_at .later [] _ _ _ _ said (fun _ h=>by cases h) (by as_aux_lemma=>kernel_rfl) (fun _ h=>by cases h) mcloseAll_row_tie rfl ⟨rfl,rfl⟩ (by as_aux_lemma=>kernel_rfl) rfl plain (by as_aux_lemma=>kernel_rfl)
#print axioms proved
end Go.Proofs.YtoiklelghfckgaaGreatDoor.mcloseAll
