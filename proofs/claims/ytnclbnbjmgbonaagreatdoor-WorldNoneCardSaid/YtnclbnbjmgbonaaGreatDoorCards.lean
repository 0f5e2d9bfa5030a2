/-
  DERIVED. GIVEN WITH THE SEED: THE CARDS: each row of YtnclbnbjmgbonaaGreatDoorRows.lean that lists a variable, with what it lists TIED to the program's text (the seventh form; the later family's looks); each row that meets fmt, with fmt's text TOLD by the authors' own Lean function (tested against real Go, not proved from fmt's source: count such statements apart). THE CARD IS WHAT COUNTS. Prove the row's statement (the work); the ties are given (YtnclbnbjmgbonaaGreatDoorTie.lean); close each card by the builder's one call (the guide's Derived/Test/ToyasCard.lean, 'card_holds'). Laid BY PROGRAM, IN A SANDBOX (cutbox-door.mjs). By AI agents, Wed Nov 11 2026. No macro, syntax, notation, axiom, sorry.
-/
import Derived.Test.YtnclbnbjmgbonaaGreatDoorRows
import GoSem.ClaimSeven
namespace Go.Proofs.YtnclbnbjmgbonaaGreatDoor
namespace Rows

/-- THE TIED CARD OF 'hackneylaw15.BagPlays'. -/
def bagPlaysCard : Claim7 := { stood := { row := bagPlaysRow, standIns := [], harness := (true, "5394bccf5f855ccdf76dfa59225045da34907f0ad192262e7fe0f1fa6a757699"), looks := true }, kinds := [], alts := [], laidByText := true, laidKinds := [.data, .data, .data, .data, .data, .pinned, .pinned], laidTests := true, laidLooks := .later }
def BagPlaysCardSaid : Prop := Claim7.holds Tryz.pinned (.plain (OpenSpec.ofChange bagPlaysSpec)) bagPlaysCard

/-- THE TIED CARD OF 'hackneylaw15.BagOne'. -/
def bagOneCard : Claim7 := { stood := { row := bagOneRow, standIns := [], harness := (true, "5394bccf5f855ccdf76dfa59225045da34907f0ad192262e7fe0f1fa6a757699"), looks := true }, kinds := [], alts := [], laidByText := true, laidKinds := [.data, .data, .data, .data, .data, .pinned, .pinned], laidTests := true, laidLooks := .later }
def BagOneCardSaid : Prop := Claim7.holds Tryz.pinned (.plain (OpenSpec.ofChange bagOneSpec)) bagOneCard

/-- THE TIED CARD OF 'hackneylaw15.BagNone'. -/
def bagNoneCard : Claim7 := { stood := { row := bagNoneRow, standIns := [], harness := (true, "5394bccf5f855ccdf76dfa59225045da34907f0ad192262e7fe0f1fa6a757699"), looks := true }, kinds := [], alts := [], laidByText := true, laidKinds := [.data, .data, .data, .data, .data, .pinned, .pinned], laidTests := true, laidLooks := .later }
def BagNoneCardSaid : Prop := Claim7.holds Tryz.pinned (.plain (OpenSpec.ofChange bagNoneSpec)) bagNoneCard

/-- THE TIED CARD OF 'hackneylaw15.BagVersions'. -/
def bagVersionsCard : Claim7 := { stood := { row := bagVersionsRow, standIns := [], harness := (true, "5394bccf5f855ccdf76dfa59225045da34907f0ad192262e7fe0f1fa6a757699"), looks := true }, kinds := [], alts := [], laidByText := true, laidKinds := [.data, .data, .data, .data, .data, .pinned, .pinned], laidTests := true, laidLooks := .later }
def BagVersionsCardSaid : Prop := Claim7.holds Tryz.pinned (.plain (OpenSpec.ofChange bagVersionsSpec)) bagVersionsCard

/-- THE TIED CARD OF 'hackneylaw16.WorldPlays'. -/
def worldPlaysCard : Claim7 := { stood := { row := worldPlaysRow, standIns := [], harness := (true, "5394bccf5f855ccdf76dfa59225045da34907f0ad192262e7fe0f1fa6a757699"), looks := true }, kinds := [], alts := [], laidByText := true, laidKinds := [.data, .data, .data, .data, .data, .pinned, .pinned], laidTests := true, laidLooks := .later }
def WorldPlaysCardSaid : Prop := Claim7.holds Tryz.pinned (.plain (OpenSpec.ofChange worldPlaysSpec)) worldPlaysCard

/-- THE TIED CARD OF 'hackneylaw16.WorldBounds'. -/
def worldBoundsCard : Claim7 := { stood := { row := worldBoundsRow, standIns := [], harness := (true, "5394bccf5f855ccdf76dfa59225045da34907f0ad192262e7fe0f1fa6a757699"), looks := true }, kinds := [], alts := [], laidByText := true, laidKinds := [.data, .data, .data, .data, .data, .pinned, .pinned], laidTests := true, laidLooks := .later }
def WorldBoundsCardSaid : Prop := Claim7.holds Tryz.pinned (.plain (OpenSpec.ofChange worldBoundsSpec)) worldBoundsCard

/-- THE TIED CARD OF 'hackneylaw16.WorldNone'. -/
def worldNoneCard : Claim7 := { stood := { row := worldNoneRow, standIns := [], harness := (true, "5394bccf5f855ccdf76dfa59225045da34907f0ad192262e7fe0f1fa6a757699"), looks := true }, kinds := [], alts := [], laidByText := true, laidKinds := [.data, .data, .data, .data, .data, .pinned, .pinned], laidTests := true, laidLooks := .later }
def WorldNoneCardSaid : Prop := Claim7.holds Tryz.pinned (.plain (OpenSpec.ofChange worldNoneSpec)) worldNoneCard

/-- THE SECOND FORM's CARD OF 'hackneylaw15.BagPlays'. -/
def bagPlaysUptoCard : Claim7 := { stood := { row := bagPlaysUptoRow, standIns := [], harness := (true, "5394bccf5f855ccdf76dfa59225045da34907f0ad192262e7fe0f1fa6a757699"), looks := true }, kinds := [], alts := [], laidByText := true, laidKinds := [.data, .data, .data, .data, .data, .pinned, .pinned], laidTests := true, laidLooks := .later }
def BagPlaysUptoCardSaid : Prop := Claim7.holds Tryz.pinned (.plain (OpenSpec.upto bagPlaysSpec)) bagPlaysUptoCard

/-- THE SECOND FORM's CARD OF 'hackneylaw15.BagOne'. -/
def bagOneUptoCard : Claim7 := { stood := { row := bagOneUptoRow, standIns := [], harness := (true, "5394bccf5f855ccdf76dfa59225045da34907f0ad192262e7fe0f1fa6a757699"), looks := true }, kinds := [], alts := [], laidByText := true, laidKinds := [.data, .data, .data, .data, .data, .pinned, .pinned], laidTests := true, laidLooks := .later }
def BagOneUptoCardSaid : Prop := Claim7.holds Tryz.pinned (.plain (OpenSpec.upto bagOneSpec)) bagOneUptoCard

/-- THE SECOND FORM's CARD OF 'hackneylaw15.BagNone'. -/
def bagNoneUptoCard : Claim7 := { stood := { row := bagNoneUptoRow, standIns := [], harness := (true, "5394bccf5f855ccdf76dfa59225045da34907f0ad192262e7fe0f1fa6a757699"), looks := true }, kinds := [], alts := [], laidByText := true, laidKinds := [.data, .data, .data, .data, .data, .pinned, .pinned], laidTests := true, laidLooks := .later }
def BagNoneUptoCardSaid : Prop := Claim7.holds Tryz.pinned (.plain (OpenSpec.upto bagNoneSpec)) bagNoneUptoCard

/-- THE SECOND FORM's CARD OF 'hackneylaw15.BagVersions'. -/
def bagVersionsUptoCard : Claim7 := { stood := { row := bagVersionsUptoRow, standIns := [], harness := (true, "5394bccf5f855ccdf76dfa59225045da34907f0ad192262e7fe0f1fa6a757699"), looks := true }, kinds := [], alts := [], laidByText := true, laidKinds := [.data, .data, .data, .data, .data, .pinned, .pinned], laidTests := true, laidLooks := .later }
def BagVersionsUptoCardSaid : Prop := Claim7.holds Tryz.pinned (.plain (OpenSpec.upto bagVersionsSpec)) bagVersionsUptoCard

/-- THE SECOND FORM's CARD OF 'hackneylaw16.WorldPlays'. -/
def worldPlaysUptoCard : Claim7 := { stood := { row := worldPlaysUptoRow, standIns := [], harness := (true, "5394bccf5f855ccdf76dfa59225045da34907f0ad192262e7fe0f1fa6a757699"), looks := true }, kinds := [], alts := [], laidByText := true, laidKinds := [.data, .data, .data, .data, .data, .pinned, .pinned], laidTests := true, laidLooks := .later }
def WorldPlaysUptoCardSaid : Prop := Claim7.holds Tryz.pinned (.plain (OpenSpec.upto worldPlaysSpec)) worldPlaysUptoCard

/-- THE SECOND FORM's CARD OF 'hackneylaw16.WorldBounds'. -/
def worldBoundsUptoCard : Claim7 := { stood := { row := worldBoundsUptoRow, standIns := [], harness := (true, "5394bccf5f855ccdf76dfa59225045da34907f0ad192262e7fe0f1fa6a757699"), looks := true }, kinds := [], alts := [], laidByText := true, laidKinds := [.data, .data, .data, .data, .data, .pinned, .pinned], laidTests := true, laidLooks := .later }
def WorldBoundsUptoCardSaid : Prop := Claim7.holds Tryz.pinned (.plain (OpenSpec.upto worldBoundsSpec)) worldBoundsUptoCard

/-- THE SECOND FORM's CARD OF 'hackneylaw16.WorldNone'. -/
def worldNoneUptoCard : Claim7 := { stood := { row := worldNoneUptoRow, standIns := [], harness := (true, "5394bccf5f855ccdf76dfa59225045da34907f0ad192262e7fe0f1fa6a757699"), looks := true }, kinds := [], alts := [], laidByText := true, laidKinds := [.data, .data, .data, .data, .data, .pinned, .pinned], laidTests := true, laidLooks := .later }
def WorldNoneUptoCardSaid : Prop := Claim7.holds Tryz.pinned (.plain (OpenSpec.upto worldNoneSpec)) worldNoneUptoCard
end Rows
end Go.Proofs.YtnclbnbjmgbonaaGreatDoor
