/- It is proved that hackneylaw17.GiveSteps returns true for every input, and that each argument reads afterwards as it read before: the tied card: what the listed package-level variables (tables of the standard library) hold at the start is what the program's own text lays. Conditions: none beyond the given row and card. -/
import Derived.Test.YtaeemilldmhbnaaGreatDoorCards
import Derived.Test.YtaeemilldmhbnaaGreatDoorTie
import Derived.Test.YtaeemilldmhbnaaGreatDoorZGCard
import Derived.Deep.DeepHandedRow
import Derived.Lib.LaidTab
import Derived.LaidMore
import Derived.Lay
set_option maxRecDepth 100000
set_option maxHeartbeats 8000000
set_option linter.unusedVariables false
namespace Go.Proofs.YtaeemilldmhbnaaGreatDoor.giveSteps
open Go.ChangeShapes Go.WideShapes Go.ChangeAt Go.RowKit Go.Deep
abbrev Ro:=Rows.giveStepsRow
abbrev Sp:=Rows.giveStepsSpec
abbrev Wt:Array Value:=#[.slice none 0 0,.slice none 0 0,.slice none 0 0,.bool false,.agg #[.int .i64 0,.int .i64 0,.int .u64 0,.int .u64 0,.string ⟨#[]⟩],.int .u8 0]
theorem own:ownKnob Tryz.prog.godebug=none:=by kernel_rfl
theorem laidOut:laidOutB Tryz.prog=true:=by kernel_rfl
theorem at0:Ro.laid[3]? = some ("internal/strconv.uint64pow10",Lib.tabData .u64 Lib.pow10Tab):=by kernel_rfl
theorem at1:Ro.laid[4]? = some ("hackney/conf.keys",Tb.keyD):=by kernel_rfl
theorem at2:Ro.laid[6]? = some ("internal/strconv.pow10Tab",Pinned.pow10Tab):=by kernel_rfl
theorem table {W:World} (h:laidMetH Tryz.prog Ro.laid W):Tb.Tabs W:=by
 rw [MakeChecks.laidMetH_plain _ _ _ (by as_aux_lemma=>kernel_rfl)] at h
 exact Tb.tabs_of h (List.mem_of_getElem? at0) (List.mem_of_getElem? at2) (List.mem_of_getElem? at1)
theorem walk (H:Type) (enc:TypeId × Value→H) (W:World) (base:Nat) (I J v2 Q Y v5:Value) (d0 d1 d2 d3 d4 d5:DataW H) (p0 p1 p2 p3 p4 p5:List MemPlace) (hT:Tb.Tabs W)
  (k0:Value.okWide Tryz.prog W .any base 80 I)
  (k1:Value.okWide Tryz.prog W .any base 80 J)
  (k2:Value.okWide Tryz.prog W .any base 80 v2)
  (k3:Value.okWide Tryz.prog W .any base 4 Q)
  (k4:Value.okWide Tryz.prog W .any base 83 Y)
  (k5:Value.okWide Tryz.prog W .any base 5 v5)
  (h0:DataW.Trod enc Tryz.prog W 0 (fun _=>true) true 80 I d0 p0)
  (h1:DataW.Trod enc Tryz.prog W 0 (fun _=>true) true 80 J d1 p1)
  (h2:DataW.Trod enc Tryz.prog W 0 (fun _=>true) true 80 v2 d2 p2)
  (h3:DataW.Trod enc Tryz.prog W 0 (fun _=>true) true 4 Q d3 p3)
  (h4:DataW.Trod enc Tryz.prog W 0 (fun _=>true) true 83 Y d4 p4)
  (h5:DataW.Trod enc Tryz.prog W 0 (fun _=>true) true 5 v5 d5 p5)
  : Calls Tryz.prog 4 #[I,J,v2,Q,Y,v5] W fun e w'=>e=.returned (.bool true)∧Below W.heap.size W w':=by
 obtain ⟨As,G,cs,ss,rfl,z,us⟩:=Rw.Rd.open_ Tryz.underlying80 Tryz.underlying5 (by kernel_rfl) k0 h0
 obtain ⟨Aw,nw,cw,ws,rfl,hw,uw⟩:=Rw.Rd.open_ Tryz.underlying80 Tryz.underlying5 (by kernel_rfl) k1 h1
 obtain ⟨Am,F,cm,ms,rfl,u,um⟩:=Rw.Rd.open_ Tryz.underlying80 Tryz.underlying5 (by kernel_rfl) k2 h2
 obtain ⟨b,rfl,rfl,rfl⟩:=open_bool Tryz.underlying4 k3 h3
 obtain ⟨g,rfl,hg,hz⟩:=Wo.open_give k4 h4
 obtain ⟨n,rfl,rfl,rfl,hn⟩:=open_int Tryz.underlying5 k5 h5
 by_cases hl:(G≤6∧nw≤5)∧F≤5∧g.st.size≤20
 ·exact Wo.steps_any W hT As Aw Am G cs nw cw F cm ss ws ms z hw u (fun y h=>Wd.lo_u8 (us y h)) (fun y h=>Wd.lo_u8 (uw y h)) (fun y h=>Wd.lo_u8 (um y h)) hl.1.1 hl.1.2 hl.2.1 b g hg hl.2.2 n (Wd.lo_u8 hn)
 ·exact Wo.steps_long W hT As Aw Am G cs nw cw F cm b g n (by have:=z.cap; have:=z.top; omega) (by have:=hw.cap; have:=hw.top; omega) (by have:=u.cap; have:=u.top; omega) hz (by omega)
theorem contract (H:Type) (enc:TypeId × Value→H) (W:World) (base:Nat) (args:Array Value) (Q gs:List (DataW H)) (a0:List MemPlace)
  (h:∀ (j:Nat) t v,Tryz.f4.params[j]? = some t→args[j]? = some v→Value.okWide Tryz.prog W .any base t v)
  (Y:DataW.Whole enc Tryz.prog Tryz.f4.params.toList Sp.vars false W args.toList Q gs a0) (hL:laidMetH Tryz.prog Ro.laid W) :
  Calls Tryz.prog 4 args W fun e J=>∃ v,e=.returned v∧Sp.post enc Tryz.prog Tryz.f4 false true false false W args v J:=by
 have a2:=Y
 obtain ⟨p,q,a1,hV,rfl,aa,ac⟩:=Y
 have hA:DataW.TrodAll enc Tryz.prog W 0 (fun _=>true) true Tryz.f4.params.toList args.toList Q p:=a1
 rw [Tryz.params4] at hA h
 obtain ⟨u,ad,d0,a3,p0,q0,a9,rfl,rfl,h0,r0⟩:=trodAll_cons hA
 obtain ⟨z,ae,d1,a4,p1,q1,rfl,rfl,rfl,h1,r1⟩:=trodAll_cons r0
 obtain ⟨v2,af,d2,a5,p2,q2,rfl,rfl,rfl,h2,r2⟩:=trodAll_cons r1
 obtain ⟨F,ag,d3,a6,p3,q3,rfl,rfl,rfl,h3,r3⟩:=trodAll_cons r2
 obtain ⟨G,ah,d4,a7,p4,q4,rfl,rfl,rfl,h4,r4⟩:=trodAll_cons r3
 obtain ⟨I,ai,d5,a8,p5,q5,rfl,rfl,rfl,h5,r5⟩:=trodAll_cons r4
 obtain ⟨rfl,rfl,rfl⟩:=trodAll_nil r5
 obtain rfl:args=#[u,z,v2,F,G,I]:=by cases args; simp_all
 obtain ⟨rfl,rfl⟩:=trodVars_none hV
 refine (walk H enc W base u z v2 F G I d0 d1 d2 d3 d4 d5 p0 p1 p2 p3 p4 p5 (table hL) (h 0 _ u rfl rfl) (h 1 _ z rfl rfl) (h 2 _ v2 rfl rfl) (h 3 _ F rfl rfl) (h 4 _ G rfl rfl) (h 5 _ I rfl rfl) h0 h1 h2 h3 h4 h5).mono fun e J ⟨he,hb⟩=>?_
 subst he
 exact ⟨_,rfl,Lw.law_post laidOut (by kernel_rfl) (by kernel_rfl) Tryz.underlying4 rfl rfl a2 hb⟩
theorem fits (os:Os):(World.holding Tryz.prog os ⟨#[],#[],[]⟩).layFits Tryz.prog Ro.laid [] = true:=by kernel_rfl
theorem ifaces (os:Os):(World.holding Tryz.prog os ⟨#[],#[],[]⟩).layIfaces Tryz.prog Ro.laid (World.laidAll Tryz.prog os Ro.laid)=true:=by kernel_rfl
theorem laid_met (os:Os):laidMet Tryz.prog Ro.laid ((World.laidAll Tryz.prog os Ro.laid).forCall (fun _ _=>0) ⟨#[],Wt,[]⟩).memory:=
 laidMet_laidAll _ (fits os) (ifaces os)
theorem zip1 (os:Os):((World.laidAll Tryz.prog os Ro.laid).forCall (fun _ _=>0) ⟨#[],Wt,[]⟩).variablesZipB Tryz.prog=true:=by kernel_rfl
theorem zip2 (os:Os):(((World.laidAll Tryz.prog os Ro.laid).forCall (fun _ _=>0) ⟨#[],Wt,[]⟩).heap.toList.drop Tryz.prog.globals.size).take ((begin Tryz.prog (fun _ _=>0) default).world.heap.size - Tryz.prog.globals.size) =
  (begin Tryz.prog (fun _ _=>0) default).world.heap.toList.drop Tryz.prog.globals.size:=by kernel_rfl
theorem okw (os:Os):Input.okWideB Tryz.prog ((World.laidAll Tryz.prog os Ro.laid).forCall (fun _ _=>0) ⟨#[],Wt,[]⟩) 4 ⟨#[],Wt,[]⟩=true:=by kernel_rfl
theorem reads (w:World) {H:Type} (enc:TypeId × Value→H):DataW.whole enc Tryz.prog w Tryz.f4.params.toList Sp.vars false Wt.toList 8=some ([.nil,.nil,.nil,.lit (.bool false),.agg [.lit (.int .i64 0),.lit (.int .i64 0),.lit (.int .u64 0),.lit (.int .u64 0),.lit (.string [])],.lit (.int .u8 0)],[],[]):=by kernel_rfl
theorem sized (w:World) {H:Type} (enc:TypeId × Value→H):(OpenSpec.ofChange Sp).bare.sizedB enc Tryz.prog Tryz.f4 false w Wt 8=true:=by kernel_rfl
theorem conds {H:Type} : Ro.domain.all (PathCond.test Tryz.prog ⟨Tryz.f4.params.toList,([.nil,.nil,.nil,.lit (.bool false),.agg [.lit (.int .i64 0),.lit (.int .i64 0),.lit (.int .u64 0),.lit (.int .u64 0),.lit (.string [])],.lit (.int .u8 0)] : List (DataW H)),(OpenSpec.ofChange Sp).bare.plain.varTypes Tryz.prog,[]⟩)=true:=by kernel_rfl
theorem lifted (os:Os) (Q:os.Started) (H:Type) (enc:TypeId × Value→H) (F:Stop.Interp) :
  ReturnsInHanded {} Tryz.checked os 4 .any ((OpenSpec.ofChange Sp).preRow enc Tryz.prog Tryz.f4 Ro.domain false Ro.laid) (((OpenSpec.ofChange Sp).at F).post enc Tryz.prog Tryz.f4 false true false false):=by
 refine returnsInHanded_of_row (C:=Tryz.checked) (s:=OpenSpec.ofChange Sp) own Q (by as_aux_lemma=>kernel_rfl) Tryz.func4
  ⟨(World.laidAll Tryz.prog os Ro.laid),fun _ _=>0,⟨#[],Wt,[]⟩,World.laidAll_os _ _ _,World.shaped_of_ZipB (zip1 os) (zip2 os),(Input.okWide_of_okWideB (base:=0) (okw os)).1,(Input.okWide_of_okWideB (okw os)).2,
   OpenSpec.preRow_of_cond 8 (reads _ enc) conds (fun k hk=>by cases hk) (sized _ enc) (by rw [MakeChecks.laidMetH_plain _ _ _ (by as_aux_lemma=>kernel_rfl)]; exact laid_met os),by
   simp only [Assume.holds]
   exact ⟨by simp,by simp,fun _=>Modest.zero,by simp,by simp⟩⟩ ?_
 intro W base args u z h J I _ _ _ G _ _
 exact contract H enc W base args u z h J I G
theorem an {a b:Bool} (ha:a=true) (hb:b=true):(a && b)=true:=by rw [ha,hb]; rfl
theorem f0:(Ro.wf (OpenSpec.ofChange Sp))=true:=by kernel_rfl
theorem f1:(laidOutB Tryz.pinned.checked.prog)=true:=by kernel_rfl
theorem f2:(mapsRowed Tryz.pinned.checked.prog)=true:=by kernel_rfl
theorem f3:(Tryz.f4.params.all (Tryz.pinned.checked.prog.readableRec ·))=true:=by kernel_rfl
theorem f4:(namedTie Tryz.pinned.checked.prog Ro.named Sp.vars)=true:=by kernel_rfl
theorem f5:(Ro.stops == [])=true:=by kernel_rfl
theorem f6:(Tryz.pinned.checked.prog.stops == [])=true:=by kernel_rfl
theorem f7:(Ro.knobs == [])=true:=by kernel_rfl
theorem f8:(Tryz.pinned.checked.prog.stopKnobs == [])=true:=by kernel_rfl
theorem f9:(Ro.inPlace == Tryz.pinned.checked.prog.inPlace 4)=true:=by kernel_rfl
theorem f10:(Ro.unfollowed == Tryz.pinned.checked.prog.unfollowed 4)=true:=by kernel_rfl
theorem f11:(Ro.recurses == Tryz.pinned.checked.prog.recurses 4)=true:=by kernel_rfl
theorem f12:(Ro.named == Tryz.pinned.checked.prog.varsNamed 4)=true:=by kernel_rfl
theorem f13:(Ro.maps == (Tryz.f4.params.toList ++ Sp.plain.varTypes Tryz.pinned.checked.prog).any (Tryz.pinned.checked.prog.mapsRec ·))=true:=by kernel_rfl
theorem f14:(Ro.ifaces == (Tryz.f4.params.toList ++ Sp.plain.varTypes Tryz.pinned.checked.prog).any (Tryz.pinned.checked.prog.ifacesRec ·))=true:=by kernel_rfl
theorem f15:(Ro.mapsOut == Tryz.pinned.checked.prog.mapsAmong Tryz.f4.resultTypes.toList)=true:=by kernel_rfl
theorem f16:(Ro.loops == (Tryz.f4.params.toList ++ Sp.plain.varTypes Tryz.pinned.checked.prog).any (Tryz.pinned.checked.prog.loopsFrom ·))=true:=by kernel_rfl
theorem f17:(Ro.wideKeys == (Tryz.f4.params.toList ++ Sp.plain.varTypes Tryz.pinned.checked.prog ++ Tryz.f4.resultTypes.toList).any (Tryz.pinned.checked.prog.wideKeysFrom ·))=true:=by kernel_rfl
theorem f18:(Sp.vars.all (Tryz.pinned.checked.prog.varReadable ·))=true:=by kernel_rfl
theorem f19:(Tryz.f4.resultTypes.all (fun t=>Tryz.pinned.checked.prog.readableRec t && decide (t < Tryz.pinned.checked.prog.types.size)))=true:=by kernel_rfl
theorem f20:(Ro.ifacesOut == Tryz.f4.resultTypes.toList.any (Tryz.pinned.checked.prog.ifacesRec ·))=true:=by kernel_rfl
theorem f21:(Ro.loopsOut == Tryz.f4.resultTypes.toList.any (Tryz.pinned.checked.prog.loopsFrom ·))=true:=by kernel_rfl
theorem f22:(Ro.plainKeys == Tryz.pinned.checked.prog.plainKeys)=true:=by kernel_rfl
theorem f23:(Ro.shortTexts.isNone)=true:=by kernel_rfl
theorem f24:(Tryz.pinned.checked.prog.stopsHeard)=true:=by kernel_rfl
theorem f25:(Tryz.pinned.checked.prog.mayEnter)=true:=by kernel_rfl
theorem f26:(Ro.lifted == Tryz.pinned.checked.prog.liftsFinal)=true:=by kernel_rfl
theorem f27:(Tryz.pinned.checked.prog.make == some Ro.make)=true:=by kernel_rfl
theorem f28:(Ro.kinds == (if Ro.domain.isEmpty then [] else Tryz.f4.params.toList.map fun t=>match Tryz.pinned.checked.prog.underlying t with | some (.int k)=>some k | _=>none))=true:=by kernel_rfl
theorem f29:(Ro.pinned == Ro.pinnedBy)=true:=by kernel_rfl
theorem f30:(Ro.veiled == (Tryz.f4.params.toList ++ Sp.plain.varTypes Tryz.pinned.checked.prog ++ Tryz.f4.resultTypes.toList).any (Tryz.pinned.checked.prog.veiledRec ·))=true:=by kernel_rfl
theorem f31:(Ro.veiledFits Tryz.pinned.checked.prog Tryz.f4.params.toList (Tryz.f4.params.toList ++ Sp.plain.varTypes Tryz.pinned.checked.prog ++ Tryz.f4.resultTypes.toList))=true:=by kernel_rfl
theorem facts:joinedFacts Tryz.pinned.checked.prog 4 Tryz.f4 Sp Ro=true:=(an (an (an (an (an (an (an (an (an (an (an (an (an (an (an (an (an (an (an (an (an (an (an (an (an (an (an (an (an (an (an f0 f1) f2) f3) f4) f5) f6) f7) f8) f9) f10) f11) f12) f13) f14) f15) f16) f17) f18) f19) f20) f21) f22) f23) f24) f25) f26) f27) f28) f29) f30) f31)
theorem said:Rows.GiveStepsSaid:=
 OpenClaim.holds_of_cond 4 Tryz.f4 rfl rfl rfl rfl rfl rfl rfl ⟨rfl,rfl,rfl,rfl,rfl⟩ rfl rfl rfl rfl rfl (by as_aux_lemma=>kernel_rfl) Tryz.func4 facts
  (of_decide_eq_true (by as_aux_lemma=>kernel_rfl)) (by unfold Func.isWrapper; first | (rw [if_pos (by decide +kernel)]; kernel_rfl) | (rw [if_neg (by decide +kernel)]; exact ⟨rfl,rfl⟩))
  (fun os h H enc _ F=>by rw [OpenClaim.pre_eq_preRow]; exact lifted os h H enc F)
theorem plain (f:FuncId) (fn:Func) (F:Tryz.pinned.checked.prog.funcNamed "hackney/hackneylaw17.GiveSteps" = some f) (G:Tryz.pinned.checked.prog.funcs[f]? = some fn) :
  true=Tryz.pinned.checked.prog.looks [] ∧ ∀ (j:Nat) t,fn.params[j]? = some t→Tryz.pinned.checked.prog.wantsStandIn t=false:=by
 obtain rfl:f=4:=Option.some.inj ((show Tryz.prog.funcNamed "hackney/hackneylaw17.GiveSteps" = some 4 by kernel_rfl).symm.trans F) |>.symm
 obtain rfl:fn=Tryz.f4:=(Option.some.inj (Tryz.func4.symm.trans G)).symm
 refine ⟨by kernel_rfl,fun j t h=>?_⟩
 rw [Tryz.params4] at h
 have I:t∈([80,80,80,4,83,5] : List Nat):=by simpa using Array.mem_of_getElem? h
 have z:(([80,80,80,4,83,5] : List Nat).all fun u=>!Tryz.prog.wantsStandIn u)=true:=by kernel_rfl
 exact (show Tryz.prog.wantsStandIn t=false by simpa using List.all_eq_true.1 z t I)
theorem proved:Rows.GiveStepsCardSaid:=
 Claim7.holds_tied_plain_at .later [] _ _ _ _ said (fun _ h=>by cases h) (by as_aux_lemma=>kernel_rfl) (fun _ h=>by cases h) giveSteps_row_tie rfl ⟨rfl,rfl⟩ (by as_aux_lemma=>kernel_rfl) rfl plain (by as_aux_lemma=>kernel_rfl)
#print axioms proved
end Go.Proofs.YtaeemilldmhbnaaGreatDoor.giveSteps
