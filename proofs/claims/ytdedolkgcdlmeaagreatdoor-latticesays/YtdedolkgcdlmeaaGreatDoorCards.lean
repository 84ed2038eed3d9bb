/-
  DERIVED. GIVEN WITH THE SEED: THE CARDS: each row of YtdedolkgcdlmeaaGreatDoorRows.lean that lists a variable, with what it lists TIED to the program's text (the seventh form; the later family's looks); each row that meets fmt, with fmt's text TOLD by the authors' own Lean function (tested against real Go, not proved from fmt's source: count such statements apart). THE CARD IS WHAT COUNTS. Prove the row's statement (the work); the ties are given (YtdedolkgcdlmeaaGreatDoorTie.lean); close each card by the builder's one call (the guide's Derived/Test/ToyasCard.lean, 'card_holds'). Laid BY PROGRAM, IN A SANDBOX (cutbox-door.mjs). By AI agents, Wed Nov 11 2026. No macro, syntax, notation, axiom, sorry.
-/
import Derived.Test.YtdedolkgcdlmeaaGreatDoorRows
import GoSem.ClaimSeven
namespace Go.Proofs.YtdedolkgcdlmeaaGreatDoor
namespace Rows

/-- THE TIED CARD OF 'basiskeeplaw.DetSays'. -/
def detSaysCard : Claim7 := { stood := { row := detSaysRow, standIns := [], harness := (true, "bc5f76827267b625093ba45094cf29fdb3583ea5b16b8eb88ee0c7121b37b724"), looks := true }, kinds := [], alts := [], laidByText := true, laidKinds := [.data, .data, .data], laidTests := true, laidLooks := .later }
def DetSaysCardSaid : Prop := Claim7.holds Tryz.pinned (.plain (OpenSpec.ofChange detSaysSpec)) detSaysCard

/-- THE TIED CARD OF 'basiskeeplaw.SmithSays'. -/
def smithSaysCard : Claim7 := { stood := { row := smithSaysRow, standIns := [], harness := (true, "bc5f76827267b625093ba45094cf29fdb3583ea5b16b8eb88ee0c7121b37b724"), looks := true }, kinds := [], alts := [], laidByText := true, laidKinds := [.data, .data, .data], laidTests := true, laidLooks := .later }
def SmithSaysCardSaid : Prop := Claim7.holds Tryz.pinned (.plain (OpenSpec.ofChange smithSaysSpec)) smithSaysCard

/-- THE TIED CARD OF 'basiskeeplaw.LatticeSays'. -/
def latticeSaysCard : Claim7 := { stood := { row := latticeSaysRow, standIns := [], harness := (true, "bc5f76827267b625093ba45094cf29fdb3583ea5b16b8eb88ee0c7121b37b724"), looks := true }, kinds := [], alts := [], laidByText := true, laidKinds := [.data, .data, .data], laidTests := true, laidLooks := .later }
def LatticeSaysCardSaid : Prop := Claim7.holds Tryz.pinned (.plain (OpenSpec.ofChange latticeSaysSpec)) latticeSaysCard

/-- THE TIED CARD OF 'basiskeeplaw.BasisSays'. -/
def basisSaysCard : Claim7 := { stood := { row := basisSaysRow, standIns := [], harness := (true, "bc5f76827267b625093ba45094cf29fdb3583ea5b16b8eb88ee0c7121b37b724"), looks := true }, kinds := [], alts := [], laidByText := true, laidKinds := [.data, .data, .data], laidTests := true, laidLooks := .later }
def BasisSaysCardSaid : Prop := Claim7.holds Tryz.pinned (.plain (OpenSpec.ofChange basisSaysSpec)) basisSaysCard

/-- THE TIED CARD OF 'basiskeeplaw.IndexSays'. -/
def indexSaysCard : Claim7 := { stood := { row := indexSaysRow, standIns := [], harness := (true, "bc5f76827267b625093ba45094cf29fdb3583ea5b16b8eb88ee0c7121b37b724"), looks := true }, kinds := [], alts := [], laidByText := true, laidKinds := [.data, .data, .data], laidTests := true, laidLooks := .later }
def IndexSaysCardSaid : Prop := Claim7.holds Tryz.pinned (.plain (OpenSpec.ofChange indexSaysSpec)) indexSaysCard

/-- THE TIED CARD OF 'basiskeeptop.TopSecond'. -/
def topSecondCard : Claim7 := { stood := { row := topSecondRow, standIns := [], harness := (true, "bc5f76827267b625093ba45094cf29fdb3583ea5b16b8eb88ee0c7121b37b724"), looks := true }, kinds := [], alts := [], laidByText := true, laidKinds := [.data, .data, .data], laidTests := true, laidLooks := .later }
def TopSecondCardSaid : Prop := Claim7.holds Tryz.pinned (.plain (OpenSpec.ofChange topSecondSpec)) topSecondCard

/-- THE SECOND FORM's CARD OF 'basiskeeplaw.DetSays'. -/
def detSaysUptoCard : Claim7 := { stood := { row := detSaysUptoRow, standIns := [], harness := (true, "bc5f76827267b625093ba45094cf29fdb3583ea5b16b8eb88ee0c7121b37b724"), looks := true }, kinds := [], alts := [], laidByText := true, laidKinds := [.data, .data, .data], laidTests := true, laidLooks := .later }
def DetSaysUptoCardSaid : Prop := Claim7.holds Tryz.pinned (.plain (OpenSpec.upto detSaysSpec)) detSaysUptoCard

/-- THE SECOND FORM's CARD OF 'basiskeeplaw.SmithSays'. -/
def smithSaysUptoCard : Claim7 := { stood := { row := smithSaysUptoRow, standIns := [], harness := (true, "bc5f76827267b625093ba45094cf29fdb3583ea5b16b8eb88ee0c7121b37b724"), looks := true }, kinds := [], alts := [], laidByText := true, laidKinds := [.data, .data, .data], laidTests := true, laidLooks := .later }
def SmithSaysUptoCardSaid : Prop := Claim7.holds Tryz.pinned (.plain (OpenSpec.upto smithSaysSpec)) smithSaysUptoCard

/-- THE SECOND FORM's CARD OF 'basiskeeplaw.LatticeSays'. -/
def latticeSaysUptoCard : Claim7 := { stood := { row := latticeSaysUptoRow, standIns := [], harness := (true, "bc5f76827267b625093ba45094cf29fdb3583ea5b16b8eb88ee0c7121b37b724"), looks := true }, kinds := [], alts := [], laidByText := true, laidKinds := [.data, .data, .data], laidTests := true, laidLooks := .later }
def LatticeSaysUptoCardSaid : Prop := Claim7.holds Tryz.pinned (.plain (OpenSpec.upto latticeSaysSpec)) latticeSaysUptoCard

/-- THE SECOND FORM's CARD OF 'basiskeeplaw.BasisSays'. -/
def basisSaysUptoCard : Claim7 := { stood := { row := basisSaysUptoRow, standIns := [], harness := (true, "bc5f76827267b625093ba45094cf29fdb3583ea5b16b8eb88ee0c7121b37b724"), looks := true }, kinds := [], alts := [], laidByText := true, laidKinds := [.data, .data, .data], laidTests := true, laidLooks := .later }
def BasisSaysUptoCardSaid : Prop := Claim7.holds Tryz.pinned (.plain (OpenSpec.upto basisSaysSpec)) basisSaysUptoCard

/-- THE SECOND FORM's CARD OF 'basiskeeplaw.IndexSays'. -/
def indexSaysUptoCard : Claim7 := { stood := { row := indexSaysUptoRow, standIns := [], harness := (true, "bc5f76827267b625093ba45094cf29fdb3583ea5b16b8eb88ee0c7121b37b724"), looks := true }, kinds := [], alts := [], laidByText := true, laidKinds := [.data, .data, .data], laidTests := true, laidLooks := .later }
def IndexSaysUptoCardSaid : Prop := Claim7.holds Tryz.pinned (.plain (OpenSpec.upto indexSaysSpec)) indexSaysUptoCard

/-- THE SECOND FORM's CARD OF 'basiskeeptop.TopSecond'. -/
def topSecondUptoCard : Claim7 := { stood := { row := topSecondUptoRow, standIns := [], harness := (true, "bc5f76827267b625093ba45094cf29fdb3583ea5b16b8eb88ee0c7121b37b724"), looks := true }, kinds := [], alts := [], laidByText := true, laidKinds := [.data, .data, .data], laidTests := true, laidLooks := .later }
def TopSecondUptoCardSaid : Prop := Claim7.holds Tryz.pinned (.plain (OpenSpec.upto topSecondSpec)) topSecondUptoCard
end Rows
end Go.Proofs.YtdedolkgcdlmeaaGreatDoor
