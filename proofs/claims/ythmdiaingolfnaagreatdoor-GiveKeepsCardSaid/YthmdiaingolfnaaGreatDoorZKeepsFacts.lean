/- Closed facts of the claim. -/
import Derived.Test.YthmdiaingolfnaaGreatDoorCards
import Derived.Test.YthmdiaingolfnaaGreatDoorTie
import Derived.WalkKit
import Derived.ProofKit
import Derived.OpenShut
import Derived.Deep.DeepHandedRow
import Derived.Lib.LaidTab
import Derived.LaidMore
import Derived.Lay
import Derived.Test.YthmdiaingolfnaaGreatDoorZTabs
namespace Go.Proofs.YthmdiaingolfnaaGreatDoor.giveKeeps
open Go.ChangeShapes Go.WideShapes Go.ChangeAt Go.RowKit Go.Deep
set_option linter.unusedVariables false
theorem own : ownKnob Tryz.prog.godebug = none := by kernel_rfl
theorem laidOut : laidOutB Tryz.prog = true := by kernel_rfl
theorem at0 : Rows.giveKeepsRow.laid[3]? = some ("internal/strconv.uint64pow10", Lib.tabData .u64 Lib.pow10Tab) := by kernel_rfl
theorem at1 : Rows.giveKeepsRow.laid[4]? = some ("hackney/conf.keys", Tb.keyD) := by kernel_rfl
theorem at2 : Rows.giveKeepsRow.laid[6]? = some ("internal/strconv.pow10Tab", Pinned.pow10Tab) := by kernel_rfl
theorem fits (os : Os) : (World.holding Tryz.prog os ⟨#[], #[], []⟩).layFits Tryz.prog Rows.giveKeepsRow.laid [] = true := by kernel_rfl
theorem ifaces (os : Os) : (World.holding Tryz.prog os ⟨#[], #[], []⟩).layIfaces Tryz.prog Rows.giveKeepsRow.laid (World.laidAll Tryz.prog os Rows.giveKeepsRow.laid) = true := by kernel_rfl
theorem laid_met (os : Os) : laidMet Tryz.prog Rows.giveKeepsRow.laid ((World.laidAll Tryz.prog os Rows.giveKeepsRow.laid).forCall (fun _ _ => 0) ⟨#[], #[.int .u8 0, .slice none 0 0, .slice none 0 0, .bool false, .int .u8 0], []⟩).memory :=
  laidMet_laidAll _ (fits os) (ifaces os)
theorem zip1 (os : Os) : ((World.laidAll Tryz.prog os Rows.giveKeepsRow.laid).forCall (fun _ _ => 0) ⟨#[], #[.int .u8 0, .slice none 0 0, .slice none 0 0, .bool false, .int .u8 0], []⟩).variablesZipB Tryz.prog = true := by kernel_rfl
theorem zip2 (os : Os) : (((World.laidAll Tryz.prog os Rows.giveKeepsRow.laid).forCall (fun _ _ => 0) ⟨#[], #[.int .u8 0, .slice none 0 0, .slice none 0 0, .bool false, .int .u8 0], []⟩).heap.toList.drop Tryz.prog.globals.size).take ((begin Tryz.prog (fun _ _ => 0) default).world.heap.size - Tryz.prog.globals.size) =
    (begin Tryz.prog (fun _ _ => 0) default).world.heap.toList.drop Tryz.prog.globals.size := by kernel_rfl
theorem okw (os : Os) : Input.okWideB Tryz.prog ((World.laidAll Tryz.prog os Rows.giveKeepsRow.laid).forCall (fun _ _ => 0) ⟨#[], #[.int .u8 0, .slice none 0 0, .slice none 0 0, .bool false, .int .u8 0], []⟩) 4 ⟨#[], #[.int .u8 0, .slice none 0 0, .slice none 0 0, .bool false, .int .u8 0], []⟩ = true := by kernel_rfl
theorem reads (w : World) {H : Type} (enc : TypeId × Value → H) : DataW.whole enc Tryz.prog w Tryz.f4.params.toList Rows.giveKeepsSpec.vars false (#[.int .u8 0, .slice none 0 0, .slice none 0 0, .bool false, .int .u8 0] : Array Value).toList 8 = some ([.lit (.int .u8 0), .nil, .nil, .lit (.bool false), .lit (.int .u8 0)], [], []) := by kernel_rfl
theorem sized (w : World) {H : Type} (enc : TypeId × Value → H) : (OpenSpec.ofChange Rows.giveKeepsSpec).bare.sizedB enc Tryz.prog Tryz.f4 false w #[.int .u8 0, .slice none 0 0, .slice none 0 0, .bool false, .int .u8 0] 8 = true := by kernel_rfl
theorem conds {H : Type} : Rows.giveKeepsRow.domain.all (PathCond.test Tryz.prog ⟨Tryz.f4.params.toList, ([.lit (.int .u8 0), .nil, .nil, .lit (.bool false), .lit (.int .u8 0)] : List (DataW H)), (OpenSpec.ofChange Rows.giveKeepsSpec).bare.plain.varTypes Tryz.prog, []⟩) = true := by kernel_rfl
theorem and_t {a b : Bool} (ha : a = true) (hb : b = true) : (a && b) = true := by rw [ha, hb]; rfl
theorem fact0 : (Rows.giveKeepsRow.wf (OpenSpec.ofChange Rows.giveKeepsSpec)) = true := by kernel_rfl
theorem fact1 : (laidOutB Tryz.pinned.checked.prog) = true := by kernel_rfl
theorem fact2 : (mapsRowed Tryz.pinned.checked.prog) = true := by kernel_rfl
theorem fact3 : (Tryz.f4.params.all (Tryz.pinned.checked.prog.readableRec ·)) = true := by kernel_rfl
theorem fact4 : (namedTie Tryz.pinned.checked.prog Rows.giveKeepsRow.named Rows.giveKeepsSpec.vars) = true := by kernel_rfl
theorem fact5 : (Rows.giveKeepsRow.stops == []) = true := by kernel_rfl
theorem fact6 : (Tryz.pinned.checked.prog.stops == []) = true := by kernel_rfl
theorem fact7 : (Rows.giveKeepsRow.knobs == []) = true := by kernel_rfl
theorem fact8 : (Tryz.pinned.checked.prog.stopKnobs == []) = true := by kernel_rfl
theorem fact9 : (Rows.giveKeepsRow.inPlace == Tryz.pinned.checked.prog.inPlace 4) = true := by kernel_rfl
theorem fact10 : (Rows.giveKeepsRow.unfollowed == Tryz.pinned.checked.prog.unfollowed 4) = true := by kernel_rfl
theorem fact11 : (Rows.giveKeepsRow.recurses == Tryz.pinned.checked.prog.recurses 4) = true := by kernel_rfl
theorem fact12 : (Rows.giveKeepsRow.named == Tryz.pinned.checked.prog.varsNamed 4) = true := by kernel_rfl
theorem fact13 : (Rows.giveKeepsRow.maps == (Tryz.f4.params.toList ++ Rows.giveKeepsSpec.plain.varTypes Tryz.pinned.checked.prog).any (Tryz.pinned.checked.prog.mapsRec ·)) = true := by kernel_rfl
theorem fact14 : (Rows.giveKeepsRow.ifaces == (Tryz.f4.params.toList ++ Rows.giveKeepsSpec.plain.varTypes Tryz.pinned.checked.prog).any (Tryz.pinned.checked.prog.ifacesRec ·)) = true := by kernel_rfl
theorem fact15 : (Rows.giveKeepsRow.mapsOut == Tryz.pinned.checked.prog.mapsAmong Tryz.f4.resultTypes.toList) = true := by kernel_rfl
theorem fact16 : (Rows.giveKeepsRow.loops == (Tryz.f4.params.toList ++ Rows.giveKeepsSpec.plain.varTypes Tryz.pinned.checked.prog).any (Tryz.pinned.checked.prog.loopsFrom ·)) = true := by kernel_rfl
theorem fact17 : (Rows.giveKeepsRow.wideKeys == (Tryz.f4.params.toList ++ Rows.giveKeepsSpec.plain.varTypes Tryz.pinned.checked.prog ++ Tryz.f4.resultTypes.toList).any (Tryz.pinned.checked.prog.wideKeysFrom ·)) = true := by kernel_rfl
theorem fact18 : (Rows.giveKeepsSpec.vars.all (Tryz.pinned.checked.prog.varReadable ·)) = true := by kernel_rfl
theorem fact19 : (Tryz.f4.resultTypes.all (fun t => Tryz.pinned.checked.prog.readableRec t && decide (t < Tryz.pinned.checked.prog.types.size))) = true := by kernel_rfl
theorem fact20 : (Rows.giveKeepsRow.ifacesOut == Tryz.f4.resultTypes.toList.any (Tryz.pinned.checked.prog.ifacesRec ·)) = true := by kernel_rfl
theorem fact21 : (Rows.giveKeepsRow.loopsOut == Tryz.f4.resultTypes.toList.any (Tryz.pinned.checked.prog.loopsFrom ·)) = true := by kernel_rfl
theorem fact22 : (Rows.giveKeepsRow.plainKeys == Tryz.pinned.checked.prog.plainKeys) = true := by kernel_rfl
theorem fact23 : (Rows.giveKeepsRow.shortTexts.isNone) = true := by kernel_rfl
theorem fact24 : (Tryz.pinned.checked.prog.stopsHeard) = true := by kernel_rfl
theorem fact25 : (Tryz.pinned.checked.prog.mayEnter) = true := by kernel_rfl
theorem fact26 : (Rows.giveKeepsRow.lifted == Tryz.pinned.checked.prog.liftsFinal) = true := by kernel_rfl
theorem fact27 : (Tryz.pinned.checked.prog.make == some Rows.giveKeepsRow.make) = true := by kernel_rfl
theorem fact28 : (Rows.giveKeepsRow.kinds == (if Rows.giveKeepsRow.domain.isEmpty then [] else Tryz.f4.params.toList.map fun t => match Tryz.pinned.checked.prog.underlying t with | some (.int k) => some k | _ => none)) = true := by kernel_rfl
theorem fact29 : (Rows.giveKeepsRow.pinned == Rows.giveKeepsRow.pinnedBy) = true := by kernel_rfl
theorem fact30 : (Rows.giveKeepsRow.veiled == (Tryz.f4.params.toList ++ Rows.giveKeepsSpec.plain.varTypes Tryz.pinned.checked.prog ++ Tryz.f4.resultTypes.toList).any (Tryz.pinned.checked.prog.veiledRec ·)) = true := by kernel_rfl
theorem fact31 : (Rows.giveKeepsRow.veiledFits Tryz.pinned.checked.prog Tryz.f4.params.toList (Tryz.f4.params.toList ++ Rows.giveKeepsSpec.plain.varTypes Tryz.pinned.checked.prog ++ Tryz.f4.resultTypes.toList)) = true := by kernel_rfl
set_option maxRecDepth 100000 in
set_option maxHeartbeats 4000000 in
theorem facts : joinedFacts Tryz.pinned.checked.prog 4 Tryz.f4 Rows.giveKeepsSpec Rows.giveKeepsRow = true := (and_t (and_t (and_t (and_t (and_t (and_t (and_t (and_t (and_t (and_t (and_t (and_t (and_t (and_t (and_t (and_t (and_t (and_t (and_t (and_t (and_t (and_t (and_t (and_t (and_t (and_t (and_t (and_t (and_t (and_t (and_t fact0 fact1) fact2) fact3) fact4) fact5) fact6) fact7) fact8) fact9) fact10) fact11) fact12) fact13) fact14) fact15) fact16) fact17) fact18) fact19) fact20) fact21) fact22) fact23) fact24) fact25) fact26) fact27) fact28) fact29) fact30) fact31)
end Go.Proofs.YthmdiaingolfnaaGreatDoor.giveKeeps
