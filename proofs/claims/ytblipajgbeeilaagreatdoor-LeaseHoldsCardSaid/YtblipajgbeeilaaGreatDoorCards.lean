/-
  DERIVED. GIVEN WITH THE SEED: THE CARDS: each row of YtblipajgbeeilaaGreatDoorRows.lean that lists a variable, with what it lists TIED to the program's text (the seventh form; the later family's looks); each row that meets fmt, with fmt's text TOLD by the authors' own Lean function (tested against real Go, not proved from fmt's source: count such statements apart). THE CARD IS WHAT COUNTS. Prove the row's statement (the work); the ties are given (YtblipajgbeeilaaGreatDoorTie.lean); close each card by the builder's one call (the guide's Derived/Test/ToyasCard.lean, 'card_holds'). Laid BY PROGRAM, IN A SANDBOX (cutbox-door.mjs). By AI agents, Wed Nov 11 2026. No macro, syntax, notation, axiom, sorry.
-/
import Derived.Test.YtblipajgbeeilaaGreatDoorRows
import GoSem.ClaimSeven
namespace Go.Proofs.YtblipajgbeeilaaGreatDoor
namespace Rows

/-- THE TIED CARD OF 'hackneylaw06.RatioTells'. -/
def ratioTellsCard : Claim7 := { stood := { row := ratioTellsRow, standIns := [], harness := (true, "1cf4eca5cd654a24cd72bbb1d62367a44fbb0fa4b1373a2bb700f5c2331c9f34"), looks := true }, kinds := [], alts := [], laidByText := true, laidKinds := [.data, .data, .data, .data, .pinned, .pinned], laidTests := true, laidLooks := .later }
def RatioTellsCardSaid : Prop := Claim7.holds Tryz.pinned (.plain (OpenSpec.ofChange ratioTellsSpec)) ratioTellsCard

/-- THE TIED CARD OF 'hackneylaw13.ConfReads'. -/
def confReadsCard : Claim7 := { stood := { row := confReadsRow, standIns := [], harness := (true, "1cf4eca5cd654a24cd72bbb1d62367a44fbb0fa4b1373a2bb700f5c2331c9f34"), looks := true }, kinds := [], alts := [], laidByText := true, laidKinds := [.data, .data, .widerDeep, .widerDeep, .data, .data, .data, .data, .data, .data, .sentinel, .sentinel, .data, .pinned, .pinned, .pinned], laidTests := true, laidLooks := .later }
def ConfReadsCardSaid : Prop := Claim7.holds Tryz.pinned (.plain (OpenSpec.ofChange confReadsSpec)) confReadsCard

/-- THE TIED CARD OF 'hackneylaw14.LeasePlays'. -/
def leasePlaysCard : Claim7 := { stood := { row := leasePlaysRow, standIns := [], harness := (true, "1cf4eca5cd654a24cd72bbb1d62367a44fbb0fa4b1373a2bb700f5c2331c9f34"), looks := true }, kinds := [], alts := [], laidByText := true, laidKinds := [.data, .data, .data, .data, .data, .pinned, .pinned], laidTests := true, laidLooks := .later }
def LeasePlaysCardSaid : Prop := Claim7.holds Tryz.pinned (.plain (OpenSpec.ofChange leasePlaysSpec)) leasePlaysCard

/-- THE TIED CARD OF 'hackneylaw14.LeaseHolds'. -/
def leaseHoldsCard : Claim7 := { stood := { row := leaseHoldsRow, standIns := [], harness := (true, "1cf4eca5cd654a24cd72bbb1d62367a44fbb0fa4b1373a2bb700f5c2331c9f34"), looks := true }, kinds := [], alts := [], laidByText := true, laidKinds := [.data, .data, .data, .data, .data, .pinned, .pinned], laidTests := true, laidLooks := .later }
def LeaseHoldsCardSaid : Prop := Claim7.holds Tryz.pinned (.plain (OpenSpec.ofChange leaseHoldsSpec)) leaseHoldsCard

/-- THE TIED CARD OF 'hackneylaw14.LeaseNone'. -/
def leaseNoneCard : Claim7 := { stood := { row := leaseNoneRow, standIns := [], harness := (true, "1cf4eca5cd654a24cd72bbb1d62367a44fbb0fa4b1373a2bb700f5c2331c9f34"), looks := true }, kinds := [], alts := [], laidByText := true, laidKinds := [.data, .data, .data, .data, .data, .pinned, .pinned], laidTests := true, laidLooks := .later }
def LeaseNoneCardSaid : Prop := Claim7.holds Tryz.pinned (.plain (OpenSpec.ofChange leaseNoneSpec)) leaseNoneCard

/-- THE SECOND FORM's CARD OF 'hackneylaw06.RatioTells'. -/
def ratioTellsUptoCard : Claim7 := { stood := { row := ratioTellsUptoRow, standIns := [], harness := (true, "1cf4eca5cd654a24cd72bbb1d62367a44fbb0fa4b1373a2bb700f5c2331c9f34"), looks := true }, kinds := [], alts := [], laidByText := true, laidKinds := [.data, .data, .data, .data, .pinned, .pinned], laidTests := true, laidLooks := .later }
def RatioTellsUptoCardSaid : Prop := Claim7.holds Tryz.pinned (.plain (OpenSpec.upto ratioTellsSpec)) ratioTellsUptoCard

/-- THE SECOND FORM's CARD OF 'hackneylaw13.ConfReads'. -/
def confReadsUptoCard : Claim7 := { stood := { row := confReadsUptoRow, standIns := [], harness := (true, "1cf4eca5cd654a24cd72bbb1d62367a44fbb0fa4b1373a2bb700f5c2331c9f34"), looks := true }, kinds := [], alts := [], laidByText := true, laidKinds := [.data, .data, .widerDeep, .widerDeep, .data, .data, .data, .data, .data, .data, .sentinel, .sentinel, .data, .pinned, .pinned, .pinned], laidTests := true, laidLooks := .later }
def ConfReadsUptoCardSaid : Prop := Claim7.holds Tryz.pinned (.plain (OpenSpec.upto confReadsSpec)) confReadsUptoCard

/-- THE SECOND FORM's CARD OF 'hackneylaw14.LeasePlays'. -/
def leasePlaysUptoCard : Claim7 := { stood := { row := leasePlaysUptoRow, standIns := [], harness := (true, "1cf4eca5cd654a24cd72bbb1d62367a44fbb0fa4b1373a2bb700f5c2331c9f34"), looks := true }, kinds := [], alts := [], laidByText := true, laidKinds := [.data, .data, .data, .data, .data, .pinned, .pinned], laidTests := true, laidLooks := .later }
def LeasePlaysUptoCardSaid : Prop := Claim7.holds Tryz.pinned (.plain (OpenSpec.upto leasePlaysSpec)) leasePlaysUptoCard

/-- THE SECOND FORM's CARD OF 'hackneylaw14.LeaseHolds'. -/
def leaseHoldsUptoCard : Claim7 := { stood := { row := leaseHoldsUptoRow, standIns := [], harness := (true, "1cf4eca5cd654a24cd72bbb1d62367a44fbb0fa4b1373a2bb700f5c2331c9f34"), looks := true }, kinds := [], alts := [], laidByText := true, laidKinds := [.data, .data, .data, .data, .data, .pinned, .pinned], laidTests := true, laidLooks := .later }
def LeaseHoldsUptoCardSaid : Prop := Claim7.holds Tryz.pinned (.plain (OpenSpec.upto leaseHoldsSpec)) leaseHoldsUptoCard

/-- THE SECOND FORM's CARD OF 'hackneylaw14.LeaseNone'. -/
def leaseNoneUptoCard : Claim7 := { stood := { row := leaseNoneUptoRow, standIns := [], harness := (true, "1cf4eca5cd654a24cd72bbb1d62367a44fbb0fa4b1373a2bb700f5c2331c9f34"), looks := true }, kinds := [], alts := [], laidByText := true, laidKinds := [.data, .data, .data, .data, .data, .pinned, .pinned], laidTests := true, laidLooks := .later }
def LeaseNoneUptoCardSaid : Prop := Claim7.holds Tryz.pinned (.plain (OpenSpec.upto leaseNoneSpec)) leaseNoneUptoCard
end Rows
end Go.Proofs.YtblipajgbeeilaaGreatDoor
