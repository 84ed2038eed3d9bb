/-
  DERIVED. GIVEN WITH THE SEED: THE CARDS: each row of YtkfgfodghnafgabDoorRows.lean that lists a variable, with what it lists TIED to the program's text (the seventh form; the later family's looks); each row that meets fmt, with fmt's text TOLD by the authors' own Lean function (tested against real Go, not proved from fmt's source: count such statements apart). THE CARD IS WHAT COUNTS. Prove the row's statement (the work); the ties are given (YtkfgfodghnafgabDoorTie.lean); close each card by the builder's one call (the guide's Derived/Test/ToyasCard.lean, 'card_holds'). Laid BY PROGRAM, IN A SANDBOX (cutbox-door.mjs). By AI agents, Wed Nov 11 2026. No macro, syntax, notation, axiom, sorry.
-/
import Derived.Test.YtkfgfodghnafgabDoorRows
import GoSem.ClaimSeven
namespace Go.Proofs.YtkfgfodghnafgabDoor
namespace Rows

/-- THE TIED CARD OF 'basiskeeptop.TopGcd'. -/
def topGcdCard : Claim7 := { stood := { row := topGcdRow, standIns := [], harness := (true, "fbded659d3c7cffeb357f80612a49c81881e0d4f68e525692e0d51673d547947"), looks := false }, kinds := [], alts := [], laidByText := true, laidKinds := [.data, .data, .data], laidTests := true, laidLooks := .later }
def TopGcdCardSaid : Prop := Claim7.holds Tryd.pinned (.plain (OpenSpec.ofChange topGcdSpec)) topGcdCard

/-- THE SECOND FORM's CARD OF 'basiskeeptop.TopGcd'. -/
def topGcdUptoCard : Claim7 := { stood := { row := topGcdUptoRow, standIns := [], harness := (true, "fbded659d3c7cffeb357f80612a49c81881e0d4f68e525692e0d51673d547947"), looks := false }, kinds := [], alts := [], laidByText := true, laidKinds := [.data, .data, .data], laidTests := true, laidLooks := .later }
def TopGcdUptoCardSaid : Prop := Claim7.holds Tryd.pinned (.plain (OpenSpec.upto topGcdSpec)) topGcdUptoCard
end Rows
end Go.Proofs.YtkfgfodghnafgabDoor
