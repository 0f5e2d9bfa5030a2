/-
  DERIVED. GIVEN WITH THE SEED: THE CARDS: each row of YthmdiaingolfnaaGreatDoorRows.lean that lists a variable, with what it lists TIED to the program's text (the seventh form; the later family's looks); each row that meets fmt, with fmt's text TOLD by the authors' own Lean function (tested against real Go, not proved from fmt's source: count such statements apart). THE CARD IS WHAT COUNTS. Prove the row's statement (the work); the ties are given (YthmdiaingolfnaaGreatDoorTie.lean); close each card by the builder's one call (the guide's Derived/Test/ToyasCard.lean, 'card_holds'). Laid BY PROGRAM, IN A SANDBOX (cutbox-door.mjs). By AI agents, Wed Nov 11 2026. No macro, syntax, notation, axiom, sorry.
-/
import Derived.Test.YthmdiaingolfnaaGreatDoorRows
import GoSem.ClaimSeven
namespace Go.Proofs.YthmdiaingolfnaaGreatDoor
namespace Rows

/-- THE TIED CARD OF 'hackneylaw16.WorldBounds'. -/
def worldBoundsCard : Claim7 := { stood := { row := worldBoundsRow, standIns := [], harness := (true, "f1956c9c202a7caca212c2944efa64dddb8bea78771ce54d67e92f1e12c3e57a"), looks := true }, kinds := [], alts := [], laidByText := true, laidKinds := [.data, .data, .data, .data, .data, .pinned, .pinned], laidTests := true, laidLooks := .later }
def WorldBoundsCardSaid : Prop := Claim7.holds Tryz.pinned (.plain (OpenSpec.ofChange worldBoundsSpec)) worldBoundsCard

/-- THE TIED CARD OF 'hackneylaw17.GiveKeeps'. -/
def giveKeepsCard : Claim7 := { stood := { row := giveKeepsRow, standIns := [], harness := (true, "f1956c9c202a7caca212c2944efa64dddb8bea78771ce54d67e92f1e12c3e57a"), looks := true }, kinds := [], alts := [], laidByText := true, laidKinds := [.data, .data, .data, .data, .data, .pinned, .pinned], laidTests := true, laidLooks := .later }
def GiveKeepsCardSaid : Prop := Claim7.holds Tryz.pinned (.plain (OpenSpec.ofChange giveKeepsSpec)) giveKeepsCard

/-- THE SECOND FORM's CARD OF 'hackneylaw16.WorldBounds'. -/
def worldBoundsUptoCard : Claim7 := { stood := { row := worldBoundsUptoRow, standIns := [], harness := (true, "f1956c9c202a7caca212c2944efa64dddb8bea78771ce54d67e92f1e12c3e57a"), looks := true }, kinds := [], alts := [], laidByText := true, laidKinds := [.data, .data, .data, .data, .data, .pinned, .pinned], laidTests := true, laidLooks := .later }
def WorldBoundsUptoCardSaid : Prop := Claim7.holds Tryz.pinned (.plain (OpenSpec.upto worldBoundsSpec)) worldBoundsUptoCard

/-- THE SECOND FORM's CARD OF 'hackneylaw17.GiveKeeps'. -/
def giveKeepsUptoCard : Claim7 := { stood := { row := giveKeepsUptoRow, standIns := [], harness := (true, "f1956c9c202a7caca212c2944efa64dddb8bea78771ce54d67e92f1e12c3e57a"), looks := true }, kinds := [], alts := [], laidByText := true, laidKinds := [.data, .data, .data, .data, .data, .pinned, .pinned], laidTests := true, laidLooks := .later }
def GiveKeepsUptoCardSaid : Prop := Claim7.holds Tryz.pinned (.plain (OpenSpec.upto giveKeepsSpec)) giveKeepsUptoCard
end Rows
end Go.Proofs.YthmdiaingolfnaaGreatDoor
