/-
  DERIVED. GIVEN WITH THE SEED: THE CARDS: each row of YtmnjdmcocifogaaGreatDoorRows.lean that lists a variable, with what it lists TIED to the program's text (the seventh form; the later family's looks); each row that meets fmt, with fmt's text TOLD by the authors' own Lean function (tested against real Go, not proved from fmt's source: count such statements apart). THE CARD IS WHAT COUNTS. Prove the row's statement (the work); the ties are given (YtmnjdmcocifogaaGreatDoorTie.lean); close each card by the builder's one call (the guide's Derived/Test/ToyasCard.lean, 'card_holds'). Laid BY PROGRAM, IN A SANDBOX (cutbox-door.mjs). By AI agents, Wed Nov 11 2026. No macro, syntax, notation, axiom, sorry.
-/
import Derived.Test.YtmnjdmcocifogaaGreatDoorRows
import GoSem.ClaimSeven
namespace Go.Proofs.YtmnjdmcocifogaaGreatDoor
namespace Rows

/-- THE TIED CARD OF 'hackneylaw09.HistTells'. -/
def histTellsCard : Claim7 := { stood := { row := histTellsRow, standIns := [], harness := (true, "2b0e2a72718c51d141f84fa6581dbdc51b494f30ad44bfc2cfec1a4580429bae"), looks := true }, kinds := [], alts := [], laidByText := true, laidKinds := [.data, .data, .data], laidTests := true, laidLooks := .later }
def HistTellsCardSaid : Prop := Claim7.holds Tryz.pinned (.plain (OpenSpec.ofChange histTellsSpec)) histTellsCard

/-- THE TIED CARD OF 'hackneylaw09.HistStays'. -/
def histStaysCard : Claim7 := { stood := { row := histStaysRow, standIns := [], harness := (true, "2b0e2a72718c51d141f84fa6581dbdc51b494f30ad44bfc2cfec1a4580429bae"), looks := true }, kinds := [], alts := [], laidByText := true, laidKinds := [.data, .data, .data], laidTests := true, laidLooks := .later }
def HistStaysCardSaid : Prop := Claim7.holds Tryz.pinned (.plain (OpenSpec.ofChange histStaysSpec)) histStaysCard

/-- THE TIED CARD OF 'hackneylaw10.FactoryPlays'. -/
def factoryPlaysCard : Claim7 := { stood := { row := factoryPlaysRow, standIns := [], harness := (true, "2b0e2a72718c51d141f84fa6581dbdc51b494f30ad44bfc2cfec1a4580429bae"), looks := true }, kinds := [], alts := [], laidByText := true, laidKinds := [.data, .data, .data], laidTests := true, laidLooks := .later }
def FactoryPlaysCardSaid : Prop := Claim7.holds Tryz.pinned (.plain (OpenSpec.ofChange factoryPlaysSpec)) factoryPlaysCard

/-- THE TIED CARD OF 'hackneylaw10.FactoryOnce'. -/
def factoryOnceCard : Claim7 := { stood := { row := factoryOnceRow, standIns := [], harness := (true, "2b0e2a72718c51d141f84fa6581dbdc51b494f30ad44bfc2cfec1a4580429bae"), looks := true }, kinds := [], alts := [], laidByText := true, laidKinds := [.data, .data, .data], laidTests := true, laidLooks := .later }
def FactoryOnceCardSaid : Prop := Claim7.holds Tryz.pinned (.plain (OpenSpec.ofChange factoryOnceSpec)) factoryOnceCard

/-- THE TIED CARD OF 'hackneylaw10.FactoryNone'. -/
def factoryNoneCard : Claim7 := { stood := { row := factoryNoneRow, standIns := [], harness := (true, "2b0e2a72718c51d141f84fa6581dbdc51b494f30ad44bfc2cfec1a4580429bae"), looks := true }, kinds := [], alts := [], laidByText := true, laidKinds := [.data, .data, .data], laidTests := true, laidLooks := .later }
def FactoryNoneCardSaid : Prop := Claim7.holds Tryz.pinned (.plain (OpenSpec.ofChange factoryNoneSpec)) factoryNoneCard

/-- THE SECOND FORM's CARD OF 'hackneylaw09.HistTells'. -/
def histTellsUptoCard : Claim7 := { stood := { row := histTellsUptoRow, standIns := [], harness := (true, "2b0e2a72718c51d141f84fa6581dbdc51b494f30ad44bfc2cfec1a4580429bae"), looks := true }, kinds := [], alts := [], laidByText := true, laidKinds := [.data, .data, .data], laidTests := true, laidLooks := .later }
def HistTellsUptoCardSaid : Prop := Claim7.holds Tryz.pinned (.plain (OpenSpec.upto histTellsSpec)) histTellsUptoCard

/-- THE SECOND FORM's CARD OF 'hackneylaw09.HistStays'. -/
def histStaysUptoCard : Claim7 := { stood := { row := histStaysUptoRow, standIns := [], harness := (true, "2b0e2a72718c51d141f84fa6581dbdc51b494f30ad44bfc2cfec1a4580429bae"), looks := true }, kinds := [], alts := [], laidByText := true, laidKinds := [.data, .data, .data], laidTests := true, laidLooks := .later }
def HistStaysUptoCardSaid : Prop := Claim7.holds Tryz.pinned (.plain (OpenSpec.upto histStaysSpec)) histStaysUptoCard

/-- THE SECOND FORM's CARD OF 'hackneylaw10.FactoryPlays'. -/
def factoryPlaysUptoCard : Claim7 := { stood := { row := factoryPlaysUptoRow, standIns := [], harness := (true, "2b0e2a72718c51d141f84fa6581dbdc51b494f30ad44bfc2cfec1a4580429bae"), looks := true }, kinds := [], alts := [], laidByText := true, laidKinds := [.data, .data, .data], laidTests := true, laidLooks := .later }
def FactoryPlaysUptoCardSaid : Prop := Claim7.holds Tryz.pinned (.plain (OpenSpec.upto factoryPlaysSpec)) factoryPlaysUptoCard

/-- THE SECOND FORM's CARD OF 'hackneylaw10.FactoryOnce'. -/
def factoryOnceUptoCard : Claim7 := { stood := { row := factoryOnceUptoRow, standIns := [], harness := (true, "2b0e2a72718c51d141f84fa6581dbdc51b494f30ad44bfc2cfec1a4580429bae"), looks := true }, kinds := [], alts := [], laidByText := true, laidKinds := [.data, .data, .data], laidTests := true, laidLooks := .later }
def FactoryOnceUptoCardSaid : Prop := Claim7.holds Tryz.pinned (.plain (OpenSpec.upto factoryOnceSpec)) factoryOnceUptoCard

/-- THE SECOND FORM's CARD OF 'hackneylaw10.FactoryNone'. -/
def factoryNoneUptoCard : Claim7 := { stood := { row := factoryNoneUptoRow, standIns := [], harness := (true, "2b0e2a72718c51d141f84fa6581dbdc51b494f30ad44bfc2cfec1a4580429bae"), looks := true }, kinds := [], alts := [], laidByText := true, laidKinds := [.data, .data, .data], laidTests := true, laidLooks := .later }
def FactoryNoneUptoCardSaid : Prop := Claim7.holds Tryz.pinned (.plain (OpenSpec.upto factoryNoneSpec)) factoryNoneUptoCard
end Rows
end Go.Proofs.YtmnjdmcocifogaaGreatDoor
