/-
  DERIVED. GIVEN WITH THE SEED: THE CARDS: each row of YtoiklelghfckgaaGreatDoorRows.lean that lists a variable, with what it lists TIED to the program's text (the seventh form; the later family's looks); each row that meets fmt, with fmt's text TOLD by the authors' own Lean function (tested against real Go, not proved from fmt's source: count such statements apart). THE CARD IS WHAT COUNTS. Prove the row's statement (the work); the ties are given (YtoiklelghfckgaaGreatDoorTie.lean); close each card by the builder's one call (the guide's Derived/Test/ToyasCard.lean, 'card_holds'). Laid BY PROGRAM, IN A SANDBOX (cutbox-door.mjs). By AI agents, Wed Nov 11 2026. No macro, syntax, notation, axiom, sorry.
-/
import Derived.Test.YtoiklelghfckgaaGreatDoorRows
import GoSem.ClaimSeven
namespace Go.Proofs.YtoiklelghfckgaaGreatDoor
namespace Rows

/-- THE TIED CARD OF 'hackneylaw18.MgetEnds'. -/
def mgetEndsCard : Claim7 := { stood := { row := mgetEndsRow, standIns := [], harness := (true, "9c7e147fe0679d16a647d84e297f258c421f3bb9a1f6b38b270dbcfe3e57eeaf"), looks := true }, kinds := [], alts := [], laidByText := true, laidKinds := [.data, .data, .data, .data, .data, .pinned, .pinned], laidTests := true, laidLooks := .later }
def MgetEndsCardSaid : Prop := Claim7.holds Tryz.pinned (.plain (OpenSpec.ofChange mgetEndsSpec)) mgetEndsCard

/-- THE TIED CARD OF 'hackneylaw21.McloseAll'. -/
def mcloseAllCard : Claim7 := { stood := { row := mcloseAllRow, standIns := [], harness := (true, "9c7e147fe0679d16a647d84e297f258c421f3bb9a1f6b38b270dbcfe3e57eeaf"), looks := true }, kinds := [], alts := [], laidByText := true, laidKinds := [.data, .data, .data, .data, .data, .pinned, .pinned], laidTests := true, laidLooks := .later }
def McloseAllCardSaid : Prop := Claim7.holds Tryz.pinned (.plain (OpenSpec.ofChange mcloseAllSpec)) mcloseAllCard

/-- THE SECOND FORM's CARD OF 'hackneylaw18.MgetEnds'. -/
def mgetEndsUptoCard : Claim7 := { stood := { row := mgetEndsUptoRow, standIns := [], harness := (true, "9c7e147fe0679d16a647d84e297f258c421f3bb9a1f6b38b270dbcfe3e57eeaf"), looks := true }, kinds := [], alts := [], laidByText := true, laidKinds := [.data, .data, .data, .data, .data, .pinned, .pinned], laidTests := true, laidLooks := .later }
def MgetEndsUptoCardSaid : Prop := Claim7.holds Tryz.pinned (.plain (OpenSpec.upto mgetEndsSpec)) mgetEndsUptoCard

/-- THE SECOND FORM's CARD OF 'hackneylaw21.McloseAll'. -/
def mcloseAllUptoCard : Claim7 := { stood := { row := mcloseAllUptoRow, standIns := [], harness := (true, "9c7e147fe0679d16a647d84e297f258c421f3bb9a1f6b38b270dbcfe3e57eeaf"), looks := true }, kinds := [], alts := [], laidByText := true, laidKinds := [.data, .data, .data, .data, .data, .pinned, .pinned], laidTests := true, laidLooks := .later }
def McloseAllUptoCardSaid : Prop := Claim7.holds Tryz.pinned (.plain (OpenSpec.upto mcloseAllSpec)) mcloseAllUptoCard
end Rows
end Go.Proofs.YtoiklelghfckgaaGreatDoor
