/-
  DERIVED. GIVEN WITH THE SEED: THE CARDS: each row of YtbdcdofjcljliaaGreatDoorRows.lean that lists a variable, with what it lists TIED to the program's text (the seventh form; the later family's looks); each row that meets fmt, with fmt's text TOLD by the authors' own Lean function (tested against real Go, not proved from fmt's source: count such statements apart). THE CARD IS WHAT COUNTS. Prove the row's statement (the work); the ties are given (YtbdcdofjcljliaaGreatDoorTie.lean); close each card by the builder's one call (the guide's Derived/Test/ToyasCard.lean, 'card_holds'). Laid BY PROGRAM, IN A SANDBOX (cutbox-door.mjs). By AI agents, Wed Nov 11 2026. No macro, syntax, notation, axiom, sorry.
-/
import Derived.Test.YtbdcdofjcljliaaGreatDoorRows
import GoSem.ClaimSeven
namespace Go.Proofs.YtbdcdofjcljliaaGreatDoor
namespace Rows

/-- THE TIED CARD OF 'hackneylaw14.LeasePlays'. -/
def leasePlaysCard : Claim7 := { stood := { row := leasePlaysRow, standIns := [], harness := (true, "523135a1d11ab831014ee82e12d40f4f36f8617c353d059a9b7f22ae3d3ce569"), looks := true }, kinds := [], alts := [], laidByText := true, laidKinds := [.data, .data, .data, .data, .data, .pinned, .pinned], laidTests := true, laidLooks := .later }
def LeasePlaysCardSaid : Prop := Claim7.holds Tryz.pinned (.plain (OpenSpec.ofChange leasePlaysSpec)) leasePlaysCard

/-- THE SECOND FORM's CARD OF 'hackneylaw14.LeasePlays'. -/
def leasePlaysUptoCard : Claim7 := { stood := { row := leasePlaysUptoRow, standIns := [], harness := (true, "523135a1d11ab831014ee82e12d40f4f36f8617c353d059a9b7f22ae3d3ce569"), looks := true }, kinds := [], alts := [], laidByText := true, laidKinds := [.data, .data, .data, .data, .data, .pinned, .pinned], laidTests := true, laidLooks := .later }
def LeasePlaysUptoCardSaid : Prop := Claim7.holds Tryz.pinned (.plain (OpenSpec.upto leasePlaysSpec)) leasePlaysUptoCard
end Rows
end Go.Proofs.YtbdcdofjcljliaaGreatDoor
