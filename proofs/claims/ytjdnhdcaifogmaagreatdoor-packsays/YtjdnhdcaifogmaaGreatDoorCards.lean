/-
  DERIVED. GIVEN WITH THE SEED: THE CARDS: each row of YtjdnhdcaifogmaaGreatDoorRows.lean that lists a variable, with what it lists TIED to the program's text (the seventh form; the later family's looks); each row that meets fmt, with fmt's text TOLD by the authors' own Lean function (tested against real Go, not proved from fmt's source: count such statements apart). THE CARD IS WHAT COUNTS. Prove the row's statement (the work); the ties are given (YtjdnhdcaifogmaaGreatDoorTie.lean); close each card by the builder's one call (the guide's Derived/Test/ToyasCard.lean, 'card_holds'). Laid BY PROGRAM, IN A SANDBOX (cutbox-door.mjs). By AI agents, Wed Nov 11 2026. No macro, syntax, notation, axiom, sorry.
-/
import Derived.Test.YtjdnhdcaifogmaaGreatDoorRows
import GoSem.ClaimSeven
namespace Go.Proofs.YtjdnhdcaifogmaaGreatDoor
namespace Rows

/-- THE TIED CARD OF 'basiskeeplaw.PackSays'. -/
def packSaysCard : Claim7 := { stood := { row := packSaysRow, standIns := [], harness := (true, "8477fb4941c128680d7479f57f5e9f86b70779095a20a081e4305f36785316cd"), looks := true }, kinds := [], alts := [], laidByText := true, laidKinds := [.data, .data, .data, .data, .sentinel, .sentinel, .pinned], laidTests := true, laidLooks := .later }
def PackSaysCardSaid : Prop := Claim7.holds Tryz.pinned (.plain (OpenSpec.ofChange packSaysSpec)) packSaysCard

/-- THE SECOND FORM's CARD OF 'basiskeeplaw.PackSays'. -/
def packSaysUptoCard : Claim7 := { stood := { row := packSaysUptoRow, standIns := [], harness := (true, "8477fb4941c128680d7479f57f5e9f86b70779095a20a081e4305f36785316cd"), looks := true }, kinds := [], alts := [], laidByText := true, laidKinds := [.data, .data, .data, .data, .sentinel, .sentinel, .pinned], laidTests := true, laidLooks := .later }
def PackSaysUptoCardSaid : Prop := Claim7.holds Tryz.pinned (.plain (OpenSpec.upto packSaysSpec)) packSaysUptoCard
end Rows
end Go.Proofs.YtjdnhdcaifogmaaGreatDoor
