/-
  DERIVED. GIVEN WITH THE SEED: THE CARDS: each row of YtbedboekfkobjaaGreatDoorRows.lean that lists a variable, with what it lists TIED to the program's text (the seventh form; the later family's looks); each row that meets fmt, with fmt's text TOLD by the authors' own Lean function (tested against real Go, not proved from fmt's source: count such statements apart). THE CARD IS WHAT COUNTS. Prove the row's statement (the work); the ties are given (YtbedboekfkobjaaGreatDoorTie.lean); close each card by the builder's one call (the guide's Derived/Test/ToyasCard.lean, 'card_holds'). Laid BY PROGRAM, IN A SANDBOX (cutbox-door.mjs). By AI agents, Wed Nov 11 2026. No macro, syntax, notation, axiom, sorry.
-/
import Derived.Test.YtbedboekfkobjaaGreatDoorRows
import GoSem.ClaimSeven
namespace Go.Proofs.YtbedboekfkobjaaGreatDoor
namespace Rows

/-- THE TIED CARD OF 'hackneylaw11.SlotsPlay'. -/
def slotsPlayCard : Claim7 := { stood := { row := slotsPlayRow, standIns := [], harness := (true, "812281a40e30d58bab86281837d3e1afa6e2d5232f3896356669beb61a1f565f"), looks := true }, kinds := [], alts := [], laidByText := true, laidKinds := [.data, .data, .data], laidTests := true, laidLooks := .later }
def SlotsPlayCardSaid : Prop := Claim7.holds Tryz.pinned (.plain (OpenSpec.ofChange slotsPlaySpec)) slotsPlayCard

/-- THE TIED CARD OF 'hackneylaw11.SlotsOrder'. -/
def slotsOrderCard : Claim7 := { stood := { row := slotsOrderRow, standIns := [], harness := (true, "812281a40e30d58bab86281837d3e1afa6e2d5232f3896356669beb61a1f565f"), looks := true }, kinds := [], alts := [], laidByText := true, laidKinds := [.data, .data, .data], laidTests := true, laidLooks := .later }
def SlotsOrderCardSaid : Prop := Claim7.holds Tryz.pinned (.plain (OpenSpec.ofChange slotsOrderSpec)) slotsOrderCard

/-- THE TIED CARD OF 'hackneylaw11.SlotsNone'. -/
def slotsNoneCard : Claim7 := { stood := { row := slotsNoneRow, standIns := [], harness := (true, "812281a40e30d58bab86281837d3e1afa6e2d5232f3896356669beb61a1f565f"), looks := true }, kinds := [], alts := [], laidByText := true, laidKinds := [.data, .data, .data], laidTests := true, laidLooks := .later }
def SlotsNoneCardSaid : Prop := Claim7.holds Tryz.pinned (.plain (OpenSpec.ofChange slotsNoneSpec)) slotsNoneCard

/-- THE TIED CARD OF 'hackneylaw11.SlotsLeave'. -/
def slotsLeaveCard : Claim7 := { stood := { row := slotsLeaveRow, standIns := [], harness := (true, "812281a40e30d58bab86281837d3e1afa6e2d5232f3896356669beb61a1f565f"), looks := true }, kinds := [], alts := [], laidByText := true, laidKinds := [.data, .data, .data], laidTests := true, laidLooks := .later }
def SlotsLeaveCardSaid : Prop := Claim7.holds Tryz.pinned (.plain (OpenSpec.ofChange slotsLeaveSpec)) slotsLeaveCard

/-- THE TIED CARD OF 'hackneylaw12.LocalPlays'. -/
def localPlaysCard : Claim7 := { stood := { row := localPlaysRow, standIns := [], harness := (true, "812281a40e30d58bab86281837d3e1afa6e2d5232f3896356669beb61a1f565f"), looks := true }, kinds := [], alts := [], laidByText := true, laidKinds := [.data, .data, .data], laidTests := true, laidLooks := .later }
def LocalPlaysCardSaid : Prop := Claim7.holds Tryz.pinned (.plain (OpenSpec.ofChange localPlaysSpec)) localPlaysCard

/-- THE TIED CARD OF 'hackneylaw12.LocalLast'. -/
def localLastCard : Claim7 := { stood := { row := localLastRow, standIns := [], harness := (true, "812281a40e30d58bab86281837d3e1afa6e2d5232f3896356669beb61a1f565f"), looks := true }, kinds := [], alts := [], laidByText := true, laidKinds := [.data, .data, .data], laidTests := true, laidLooks := .later }
def LocalLastCardSaid : Prop := Claim7.holds Tryz.pinned (.plain (OpenSpec.ofChange localLastSpec)) localLastCard

/-- THE SECOND FORM's CARD OF 'hackneylaw11.SlotsPlay'. -/
def slotsPlayUptoCard : Claim7 := { stood := { row := slotsPlayUptoRow, standIns := [], harness := (true, "812281a40e30d58bab86281837d3e1afa6e2d5232f3896356669beb61a1f565f"), looks := true }, kinds := [], alts := [], laidByText := true, laidKinds := [.data, .data, .data], laidTests := true, laidLooks := .later }
def SlotsPlayUptoCardSaid : Prop := Claim7.holds Tryz.pinned (.plain (OpenSpec.upto slotsPlaySpec)) slotsPlayUptoCard

/-- THE SECOND FORM's CARD OF 'hackneylaw11.SlotsOrder'. -/
def slotsOrderUptoCard : Claim7 := { stood := { row := slotsOrderUptoRow, standIns := [], harness := (true, "812281a40e30d58bab86281837d3e1afa6e2d5232f3896356669beb61a1f565f"), looks := true }, kinds := [], alts := [], laidByText := true, laidKinds := [.data, .data, .data], laidTests := true, laidLooks := .later }
def SlotsOrderUptoCardSaid : Prop := Claim7.holds Tryz.pinned (.plain (OpenSpec.upto slotsOrderSpec)) slotsOrderUptoCard

/-- THE SECOND FORM's CARD OF 'hackneylaw11.SlotsNone'. -/
def slotsNoneUptoCard : Claim7 := { stood := { row := slotsNoneUptoRow, standIns := [], harness := (true, "812281a40e30d58bab86281837d3e1afa6e2d5232f3896356669beb61a1f565f"), looks := true }, kinds := [], alts := [], laidByText := true, laidKinds := [.data, .data, .data], laidTests := true, laidLooks := .later }
def SlotsNoneUptoCardSaid : Prop := Claim7.holds Tryz.pinned (.plain (OpenSpec.upto slotsNoneSpec)) slotsNoneUptoCard

/-- THE SECOND FORM's CARD OF 'hackneylaw11.SlotsLeave'. -/
def slotsLeaveUptoCard : Claim7 := { stood := { row := slotsLeaveUptoRow, standIns := [], harness := (true, "812281a40e30d58bab86281837d3e1afa6e2d5232f3896356669beb61a1f565f"), looks := true }, kinds := [], alts := [], laidByText := true, laidKinds := [.data, .data, .data], laidTests := true, laidLooks := .later }
def SlotsLeaveUptoCardSaid : Prop := Claim7.holds Tryz.pinned (.plain (OpenSpec.upto slotsLeaveSpec)) slotsLeaveUptoCard

/-- THE SECOND FORM's CARD OF 'hackneylaw12.LocalPlays'. -/
def localPlaysUptoCard : Claim7 := { stood := { row := localPlaysUptoRow, standIns := [], harness := (true, "812281a40e30d58bab86281837d3e1afa6e2d5232f3896356669beb61a1f565f"), looks := true }, kinds := [], alts := [], laidByText := true, laidKinds := [.data, .data, .data], laidTests := true, laidLooks := .later }
def LocalPlaysUptoCardSaid : Prop := Claim7.holds Tryz.pinned (.plain (OpenSpec.upto localPlaysSpec)) localPlaysUptoCard

/-- THE SECOND FORM's CARD OF 'hackneylaw12.LocalLast'. -/
def localLastUptoCard : Claim7 := { stood := { row := localLastUptoRow, standIns := [], harness := (true, "812281a40e30d58bab86281837d3e1afa6e2d5232f3896356669beb61a1f565f"), looks := true }, kinds := [], alts := [], laidByText := true, laidKinds := [.data, .data, .data], laidTests := true, laidLooks := .later }
def LocalLastUptoCardSaid : Prop := Claim7.holds Tryz.pinned (.plain (OpenSpec.upto localLastSpec)) localLastUptoCard
end Rows
end Go.Proofs.YtbedboekfkobjaaGreatDoor
