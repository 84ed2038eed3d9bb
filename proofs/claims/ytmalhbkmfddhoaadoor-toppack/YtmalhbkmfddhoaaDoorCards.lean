/-
  DERIVED. GIVEN WITH THE SEED: THE CARDS: each row of YtmalhbkmfddhoaaDoorRows.lean that lists a variable, with what it lists TIED to the program's text (the seventh form; the later family's looks); each row that meets fmt, with fmt's text TOLD by the authors' own Lean function (tested against real Go, not proved from fmt's source: count such statements apart). THE CARD IS WHAT COUNTS. Prove the row's statement (the work); the ties are given (YtmalhbkmfddhoaaDoorTie.lean); close each card by the builder's one call (the guide's Derived/Test/ToyasCard.lean, 'card_holds'). Laid BY PROGRAM, IN A SANDBOX (cutbox-door.mjs). By AI agents, Wed Nov 11 2026. No macro, syntax, notation, axiom, sorry.
-/
import Derived.Test.YtmalhbkmfddhoaaDoorRows
import GoSem.ClaimSeven
namespace Go.Proofs.YtmalhbkmfddhoaaDoor
namespace Rows

/-- THE TIED CARD OF 'basiskeeptop.TopPack'. -/
def topPackCard : Claim7 := { stood := { row := topPackRow, standIns := [], harness := (true, "85071316ea538d8365fa682a7ce186202da0ad052cf9cf5b1d499d94ee8ca40f"), looks := true }, kinds := [], alts := [], laidByText := true, laidKinds := [.data, .data, .data, .data, .sentinel, .sentinel, .pinned], laidTests := true, laidLooks := .later }
def TopPackCardSaid : Prop := Claim7.holds Tryd.pinned (.plain (OpenSpec.ofChange topPackSpec)) topPackCard

/-- THE SECOND FORM's CARD OF 'basiskeeptop.TopPack'. -/
def topPackUptoCard : Claim7 := { stood := { row := topPackUptoRow, standIns := [], harness := (true, "85071316ea538d8365fa682a7ce186202da0ad052cf9cf5b1d499d94ee8ca40f"), looks := true }, kinds := [], alts := [], laidByText := true, laidKinds := [.data, .data, .data, .data, .sentinel, .sentinel, .pinned], laidTests := true, laidLooks := .later }
def TopPackUptoCardSaid : Prop := Claim7.holds Tryd.pinned (.plain (OpenSpec.upto topPackSpec)) topPackUptoCard
end Rows
end Go.Proofs.YtmalhbkmfddhoaaDoor
