/-
  DERIVED. GIVEN WITH THE SEED: THE CARDS: each row of YtaijeimgbbpgiaaDoorRows.lean that lists a variable, with what it lists TIED to the program's text (the seventh form; the later family's looks); each row that meets fmt, with fmt's text TOLD by the authors' own Lean function (tested against real Go, not proved from fmt's source: count such statements apart). THE CARD IS WHAT COUNTS. Prove the row's statement (the work); the ties are given (YtaijeimgbbpgiaaDoorTie.lean); close each card by the builder's one call (the guide's Derived/Test/ToyasCard.lean, 'card_holds'). Laid BY PROGRAM, IN A SANDBOX (cutbox-door.mjs). By AI agents, Wed Nov 11 2026. No macro, syntax, notation, axiom, sorry.
-/
import Derived.Test.YtaijeimgbbpgiaaDoorRows
import GoSem.ClaimSeven
namespace Go.Proofs.YtaijeimgbbpgiaaDoor
namespace Rows

/-- THE TIED CARD OF 'basiskeeplaw.Names'. -/
def namesCard : Claim7 := { stood := { row := namesRow, standIns := [], harness := (true, "f6e67d286f7dcfb3502800b453a9c5f7de8767d52b508368291a0a175c581e64"), looks := true }, kinds := [], alts := [], laidByText := true, laidKinds := [.data, .data, .data], laidTests := true, laidLooks := .later }
def NamesCardSaid : Prop := Claim7.holds Tryd.pinned (.plain (OpenSpec.ofChange namesSpec)) namesCard

/-- THE TIED CARD OF 'basiskeeplaw.BigSays'. -/
def bigSaysCard : Claim7 := { stood := { row := bigSaysRow, standIns := [], harness := (true, "f6e67d286f7dcfb3502800b453a9c5f7de8767d52b508368291a0a175c581e64"), looks := true }, kinds := [], alts := [], laidByText := true, laidKinds := [.data, .data, .data], laidTests := true, laidLooks := .later }
def BigSaysCardSaid : Prop := Claim7.holds Tryd.pinned (.plain (OpenSpec.ofChange bigSaysSpec)) bigSaysCard

/-- THE TIED CARD OF 'basiskeeplaw.BigReads'. -/
def bigReadsCard : Claim7 := { stood := { row := bigReadsRow, standIns := [], harness := (true, "f6e67d286f7dcfb3502800b453a9c5f7de8767d52b508368291a0a175c581e64"), looks := true }, kinds := [], alts := [], laidByText := true, laidKinds := [.data, .data, .data], laidTests := true, laidLooks := .later }
def BigReadsCardSaid : Prop := Claim7.holds Tryd.pinned (.plain (OpenSpec.ofChange bigReadsSpec)) bigReadsCard

/-- THE TIED CARD OF 'basiskeeptop.TopRing'. -/
def topRingCard : Claim7 := { stood := { row := topRingRow, standIns := [], harness := (true, "f6e67d286f7dcfb3502800b453a9c5f7de8767d52b508368291a0a175c581e64"), looks := true }, kinds := [], alts := [], laidByText := true, laidKinds := [.data, .data, .data], laidTests := true, laidLooks := .later }
def TopRingCardSaid : Prop := Claim7.holds Tryd.pinned (.plain (OpenSpec.ofChange topRingSpec)) topRingCard

/-- THE TIED CARD OF 'basiskeeptop.TopDiv'. -/
def topDivCard : Claim7 := { stood := { row := topDivRow, standIns := [], harness := (true, "f6e67d286f7dcfb3502800b453a9c5f7de8767d52b508368291a0a175c581e64"), looks := true }, kinds := [], alts := [], laidByText := true, laidKinds := [.data, .data, .data], laidTests := true, laidLooks := .later }
def TopDivCardSaid : Prop := Claim7.holds Tryd.pinned (.plain (OpenSpec.ofChange topDivSpec)) topDivCard

/-- THE SECOND FORM's CARD OF 'basiskeeplaw.Names'. -/
def namesUptoCard : Claim7 := { stood := { row := namesUptoRow, standIns := [], harness := (true, "f6e67d286f7dcfb3502800b453a9c5f7de8767d52b508368291a0a175c581e64"), looks := true }, kinds := [], alts := [], laidByText := true, laidKinds := [.data, .data, .data], laidTests := true, laidLooks := .later }
def NamesUptoCardSaid : Prop := Claim7.holds Tryd.pinned (.plain (OpenSpec.upto namesSpec)) namesUptoCard

/-- THE SECOND FORM's CARD OF 'basiskeeplaw.BigSays'. -/
def bigSaysUptoCard : Claim7 := { stood := { row := bigSaysUptoRow, standIns := [], harness := (true, "f6e67d286f7dcfb3502800b453a9c5f7de8767d52b508368291a0a175c581e64"), looks := true }, kinds := [], alts := [], laidByText := true, laidKinds := [.data, .data, .data], laidTests := true, laidLooks := .later }
def BigSaysUptoCardSaid : Prop := Claim7.holds Tryd.pinned (.plain (OpenSpec.upto bigSaysSpec)) bigSaysUptoCard

/-- THE SECOND FORM's CARD OF 'basiskeeplaw.BigReads'. -/
def bigReadsUptoCard : Claim7 := { stood := { row := bigReadsUptoRow, standIns := [], harness := (true, "f6e67d286f7dcfb3502800b453a9c5f7de8767d52b508368291a0a175c581e64"), looks := true }, kinds := [], alts := [], laidByText := true, laidKinds := [.data, .data, .data], laidTests := true, laidLooks := .later }
def BigReadsUptoCardSaid : Prop := Claim7.holds Tryd.pinned (.plain (OpenSpec.upto bigReadsSpec)) bigReadsUptoCard

/-- THE SECOND FORM's CARD OF 'basiskeeptop.TopRing'. -/
def topRingUptoCard : Claim7 := { stood := { row := topRingUptoRow, standIns := [], harness := (true, "f6e67d286f7dcfb3502800b453a9c5f7de8767d52b508368291a0a175c581e64"), looks := true }, kinds := [], alts := [], laidByText := true, laidKinds := [.data, .data, .data], laidTests := true, laidLooks := .later }
def TopRingUptoCardSaid : Prop := Claim7.holds Tryd.pinned (.plain (OpenSpec.upto topRingSpec)) topRingUptoCard

/-- THE SECOND FORM's CARD OF 'basiskeeptop.TopDiv'. -/
def topDivUptoCard : Claim7 := { stood := { row := topDivUptoRow, standIns := [], harness := (true, "f6e67d286f7dcfb3502800b453a9c5f7de8767d52b508368291a0a175c581e64"), looks := true }, kinds := [], alts := [], laidByText := true, laidKinds := [.data, .data, .data], laidTests := true, laidLooks := .later }
def TopDivUptoCardSaid : Prop := Claim7.holds Tryd.pinned (.plain (OpenSpec.upto topDivSpec)) topDivUptoCard
end Rows
end Go.Proofs.YtaijeimgbbpgiaaDoor
