/-
  DERIVED. GIVEN WITH THE SEED: THE CARDS: each row of YtofegldopgkikaaGreatDoorRows.lean that lists a variable, with what it lists TIED to the program's text (the seventh form; the later family's looks); each row that meets fmt, with fmt's text TOLD by the authors' own Lean function (tested against real Go, not proved from fmt's source: count such statements apart). THE CARD IS WHAT COUNTS. Prove the row's statement (the work); the ties are given (YtofegldopgkikaaGreatDoorTie.lean); close each card by the builder's one call (the guide's Derived/Test/ToyasCard.lean, 'card_holds'). Laid BY PROGRAM, IN A SANDBOX (cutbox-door.mjs). By AI agents, Wed Nov 11 2026. No macro, syntax, notation, axiom, sorry.
-/
import Derived.Test.YtofegldopgkikaaGreatDoorRows
import GoSem.ClaimSeven
namespace Go.Proofs.YtofegldopgkikaaGreatDoor
namespace Rows

/-- THE TIED CARD OF 'basiskeeplaw.KernelSays'. -/
def kernelSaysCard : Claim7 := { stood := { row := kernelSaysRow, standIns := [], harness := (true, "5559809a2dd72dff79e1ccff17bd5bcac908a54ce08d42334b668fb597fbcd1f"), looks := true }, kinds := [], alts := [], laidByText := true, laidKinds := [.data, .data, .data], laidTests := true, laidLooks := .later }
def KernelSaysCardSaid : Prop := Claim7.holds Tryz.pinned (.plain (OpenSpec.ofChange kernelSaysSpec)) kernelSaysCard

/-- THE SECOND FORM's CARD OF 'basiskeeplaw.KernelSays'. -/
def kernelSaysUptoCard : Claim7 := { stood := { row := kernelSaysUptoRow, standIns := [], harness := (true, "5559809a2dd72dff79e1ccff17bd5bcac908a54ce08d42334b668fb597fbcd1f"), looks := true }, kinds := [], alts := [], laidByText := true, laidKinds := [.data, .data, .data], laidTests := true, laidLooks := .later }
def KernelSaysUptoCardSaid : Prop := Claim7.holds Tryz.pinned (.plain (OpenSpec.upto kernelSaysSpec)) kernelSaysUptoCard
end Rows
end Go.Proofs.YtofegldopgkikaaGreatDoor
