/-
  DERIVED. GIVEN WITH THE SEED: THE CARDS: each row of YtaeemilldmhbnaaGreatDoorRows.lean that lists a variable, with what it lists TIED to the program's text (the seventh form; the later family's looks); each row that meets fmt, with fmt's text TOLD by the authors' own Lean function (tested against real Go, not proved from fmt's source: count such statements apart). THE CARD IS WHAT COUNTS. Prove the row's statement (the work); the ties are given (YtaeemilldmhbnaaGreatDoorTie.lean); close each card by the builder's one call (the guide's Derived/Test/ToyasCard.lean, 'card_holds'). Laid BY PROGRAM, IN A SANDBOX (cutbox-door.mjs). By AI agents, Wed Nov 11 2026. No macro, syntax, notation, axiom, sorry.
-/
import Derived.Test.YtaeemilldmhbnaaGreatDoorRows
import GoSem.ClaimSeven
namespace Go.Proofs.YtaeemilldmhbnaaGreatDoor
namespace Rows

/-- THE TIED CARD OF 'hackneylaw16.WorldPlays'. -/
def worldPlaysCard : Claim7 := { stood := { row := worldPlaysRow, standIns := [], harness := (true, "2e11ef7aacf131ce9fadae384fb50c889f2570f6e1dcbc28eac5621ec37bde06"), looks := true }, kinds := [], alts := [], laidByText := true, laidKinds := [.data, .data, .data, .data, .data, .pinned, .pinned], laidTests := true, laidLooks := .later }
def WorldPlaysCardSaid : Prop := Claim7.holds Tryz.pinned (.plain (OpenSpec.ofChange worldPlaysSpec)) worldPlaysCard

/-- THE TIED CARD OF 'hackneylaw17.GiveSteps'. -/
def giveStepsCard : Claim7 := { stood := { row := giveStepsRow, standIns := [], harness := (true, "2e11ef7aacf131ce9fadae384fb50c889f2570f6e1dcbc28eac5621ec37bde06"), looks := true }, kinds := [], alts := [], laidByText := true, laidKinds := [.data, .data, .data, .data, .data, .pinned, .pinned], laidTests := true, laidLooks := .later }
def GiveStepsCardSaid : Prop := Claim7.holds Tryz.pinned (.plain (OpenSpec.ofChange giveStepsSpec)) giveStepsCard

/-- THE SECOND FORM's CARD OF 'hackneylaw16.WorldPlays'. -/
def worldPlaysUptoCard : Claim7 := { stood := { row := worldPlaysUptoRow, standIns := [], harness := (true, "2e11ef7aacf131ce9fadae384fb50c889f2570f6e1dcbc28eac5621ec37bde06"), looks := true }, kinds := [], alts := [], laidByText := true, laidKinds := [.data, .data, .data, .data, .data, .pinned, .pinned], laidTests := true, laidLooks := .later }
def WorldPlaysUptoCardSaid : Prop := Claim7.holds Tryz.pinned (.plain (OpenSpec.upto worldPlaysSpec)) worldPlaysUptoCard

/-- THE SECOND FORM's CARD OF 'hackneylaw17.GiveSteps'. -/
def giveStepsUptoCard : Claim7 := { stood := { row := giveStepsUptoRow, standIns := [], harness := (true, "2e11ef7aacf131ce9fadae384fb50c889f2570f6e1dcbc28eac5621ec37bde06"), looks := true }, kinds := [], alts := [], laidByText := true, laidKinds := [.data, .data, .data, .data, .data, .pinned, .pinned], laidTests := true, laidLooks := .later }
def GiveStepsUptoCardSaid : Prop := Claim7.holds Tryz.pinned (.plain (OpenSpec.upto giveStepsSpec)) giveStepsUptoCard
end Rows
end Go.Proofs.YtaeemilldmhbnaaGreatDoor
