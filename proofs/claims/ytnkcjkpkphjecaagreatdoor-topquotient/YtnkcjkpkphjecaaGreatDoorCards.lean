/-
  DERIVED. GIVEN WITH THE SEED: THE CARDS: each row of YtnkcjkpkphjecaaGreatDoorRows.lean that lists a variable, with what it lists TIED to the program's text (the seventh form; the later family's looks); each row that meets fmt, with fmt's text TOLD by the authors' own Lean function (tested against real Go, not proved from fmt's source: count such statements apart). THE CARD IS WHAT COUNTS. Prove the row's statement (the work); the ties are given (YtnkcjkpkphjecaaGreatDoorTie.lean); close each card by the builder's one call (the guide's Derived/Test/ToyasCard.lean, 'card_holds'). Laid BY PROGRAM, IN A SANDBOX (cutbox-door.mjs). By AI agents, Wed Nov 11 2026. No macro, syntax, notation, axiom, sorry.
-/
import Derived.Test.YtnkcjkpkphjecaaGreatDoorRows
import GoSem.ClaimSeven
namespace Go.Proofs.YtnkcjkpkphjecaaGreatDoor
namespace Rows

/-- THE TIED CARD OF 'basiskeeptop.TopIndex'. -/
def topIndexCard : Claim7 := { stood := { row := topIndexRow, standIns := [], harness := (true, "3afed9f49a8673ad986ae4c4e63b7f6d65216d5ac7d127f2339e02e036943720"), looks := true }, kinds := [], alts := [], laidByText := true, laidKinds := [.data, .data, .data], laidTests := true, laidLooks := .later }
def TopIndexCardSaid : Prop := Claim7.holds Tryz.pinned (.plain (OpenSpec.ofChange topIndexSpec)) topIndexCard

/-- THE TIED CARD OF 'basiskeeptop.TopFill'. -/
def topFillCard : Claim7 := { stood := { row := topFillRow, standIns := [], harness := (true, "3afed9f49a8673ad986ae4c4e63b7f6d65216d5ac7d127f2339e02e036943720"), looks := true }, kinds := [], alts := [], laidByText := true, laidKinds := [.data, .data, .data], laidTests := true, laidLooks := .later }
def TopFillCardSaid : Prop := Claim7.holds Tryz.pinned (.plain (OpenSpec.ofChange topFillSpec)) topFillCard

/-- THE TIED CARD OF 'basiskeeptop.TopQuotient'. -/
def topQuotientCard : Claim7 := { stood := { row := topQuotientRow, standIns := [], harness := (true, "3afed9f49a8673ad986ae4c4e63b7f6d65216d5ac7d127f2339e02e036943720"), looks := true }, kinds := [], alts := [], laidByText := true, laidKinds := [.data, .data, .data], laidTests := true, laidLooks := .later }
def TopQuotientCardSaid : Prop := Claim7.holds Tryz.pinned (.plain (OpenSpec.ofChange topQuotientSpec)) topQuotientCard

/-- THE SECOND FORM's CARD OF 'basiskeeptop.TopIndex'. -/
def topIndexUptoCard : Claim7 := { stood := { row := topIndexUptoRow, standIns := [], harness := (true, "3afed9f49a8673ad986ae4c4e63b7f6d65216d5ac7d127f2339e02e036943720"), looks := true }, kinds := [], alts := [], laidByText := true, laidKinds := [.data, .data, .data], laidTests := true, laidLooks := .later }
def TopIndexUptoCardSaid : Prop := Claim7.holds Tryz.pinned (.plain (OpenSpec.upto topIndexSpec)) topIndexUptoCard

/-- THE SECOND FORM's CARD OF 'basiskeeptop.TopFill'. -/
def topFillUptoCard : Claim7 := { stood := { row := topFillUptoRow, standIns := [], harness := (true, "3afed9f49a8673ad986ae4c4e63b7f6d65216d5ac7d127f2339e02e036943720"), looks := true }, kinds := [], alts := [], laidByText := true, laidKinds := [.data, .data, .data], laidTests := true, laidLooks := .later }
def TopFillUptoCardSaid : Prop := Claim7.holds Tryz.pinned (.plain (OpenSpec.upto topFillSpec)) topFillUptoCard

/-- THE SECOND FORM's CARD OF 'basiskeeptop.TopQuotient'. -/
def topQuotientUptoCard : Claim7 := { stood := { row := topQuotientUptoRow, standIns := [], harness := (true, "3afed9f49a8673ad986ae4c4e63b7f6d65216d5ac7d127f2339e02e036943720"), looks := true }, kinds := [], alts := [], laidByText := true, laidKinds := [.data, .data, .data], laidTests := true, laidLooks := .later }
def TopQuotientUptoCardSaid : Prop := Claim7.holds Tryz.pinned (.plain (OpenSpec.upto topQuotientSpec)) topQuotientUptoCard
end Rows
end Go.Proofs.YtnkcjkpkphjecaaGreatDoor
