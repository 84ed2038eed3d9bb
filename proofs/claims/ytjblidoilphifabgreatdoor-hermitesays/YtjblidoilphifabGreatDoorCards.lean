/-
  DERIVED. GIVEN WITH THE SEED: THE CARDS: each row of YtjblidoilphifabGreatDoorRows.lean that lists a variable, with what it lists TIED to the program's text (the seventh form; the later family's looks); each row that meets fmt, with fmt's text TOLD by the authors' own Lean function (tested against real Go, not proved from fmt's source: count such statements apart). THE CARD IS WHAT COUNTS. Prove the row's statement (the work); the ties are given (YtjblidoilphifabGreatDoorTie.lean); close each card by the builder's one call (the guide's Derived/Test/ToyasCard.lean, 'card_holds'). Laid BY PROGRAM, IN A SANDBOX (cutbox-door.mjs). By AI agents, Wed Nov 11 2026. No macro, syntax, notation, axiom, sorry.
-/
import Derived.Test.YtjblidoilphifabGreatDoorRows
import GoSem.ClaimSeven
namespace Go.Proofs.YtjblidoilphifabGreatDoor
namespace Rows

/-- THE TIED CARD OF 'basiskeeplaw.VecSays'. -/
def vecSaysCard : Claim7 := { stood := { row := vecSaysRow, standIns := [], harness := (true, "d4a3e83e2e8492882b0911a4c81b00cc1fa20377b4e41f3856c970eb54d54895"), looks := true }, kinds := [], alts := [], laidByText := true, laidKinds := [.data, .data, .data, .data, .pinned], laidTests := true, laidLooks := .later }
def VecSaysCardSaid : Prop := Claim7.holds Tryz.pinned (.plain (OpenSpec.ofChange vecSaysSpec)) vecSaysCard

/-- THE TIED CARD OF 'basiskeeplaw.HermiteSays'. -/
def hermiteSaysCard : Claim7 := { stood := { row := hermiteSaysRow, standIns := [], harness := (true, "d4a3e83e2e8492882b0911a4c81b00cc1fa20377b4e41f3856c970eb54d54895"), looks := true }, kinds := [], alts := [], laidByText := true, laidKinds := [.data, .data, .data], laidTests := true, laidLooks := .later }
def HermiteSaysCardSaid : Prop := Claim7.holds Tryz.pinned (.plain (OpenSpec.ofChange hermiteSaysSpec)) hermiteSaysCard

/-- THE TIED CARD OF 'basiskeeplaw.DetSays'. -/
def detSaysCard : Claim7 := { stood := { row := detSaysRow, standIns := [], harness := (true, "d4a3e83e2e8492882b0911a4c81b00cc1fa20377b4e41f3856c970eb54d54895"), looks := true }, kinds := [], alts := [], laidByText := true, laidKinds := [.data, .data, .data], laidTests := true, laidLooks := .later }
def DetSaysCardSaid : Prop := Claim7.holds Tryz.pinned (.plain (OpenSpec.ofChange detSaysSpec)) detSaysCard

/-- THE TIED CARD OF 'basiskeeplaw.SmithSays'. -/
def smithSaysCard : Claim7 := { stood := { row := smithSaysRow, standIns := [], harness := (true, "d4a3e83e2e8492882b0911a4c81b00cc1fa20377b4e41f3856c970eb54d54895"), looks := true }, kinds := [], alts := [], laidByText := true, laidKinds := [.data, .data, .data], laidTests := true, laidLooks := .later }
def SmithSaysCardSaid : Prop := Claim7.holds Tryz.pinned (.plain (OpenSpec.ofChange smithSaysSpec)) smithSaysCard

/-- THE TIED CARD OF 'basiskeeplaw.KernelSays'. -/
def kernelSaysCard : Claim7 := { stood := { row := kernelSaysRow, standIns := [], harness := (true, "d4a3e83e2e8492882b0911a4c81b00cc1fa20377b4e41f3856c970eb54d54895"), looks := true }, kinds := [], alts := [], laidByText := true, laidKinds := [.data, .data, .data], laidTests := true, laidLooks := .later }
def KernelSaysCardSaid : Prop := Claim7.holds Tryz.pinned (.plain (OpenSpec.ofChange kernelSaysSpec)) kernelSaysCard

/-- THE SECOND FORM's CARD OF 'basiskeeplaw.VecSays'. -/
def vecSaysUptoCard : Claim7 := { stood := { row := vecSaysUptoRow, standIns := [], harness := (true, "d4a3e83e2e8492882b0911a4c81b00cc1fa20377b4e41f3856c970eb54d54895"), looks := true }, kinds := [], alts := [], laidByText := true, laidKinds := [.data, .data, .data, .data, .pinned], laidTests := true, laidLooks := .later }
def VecSaysUptoCardSaid : Prop := Claim7.holds Tryz.pinned (.plain (OpenSpec.upto vecSaysSpec)) vecSaysUptoCard

/-- THE SECOND FORM's CARD OF 'basiskeeplaw.HermiteSays'. -/
def hermiteSaysUptoCard : Claim7 := { stood := { row := hermiteSaysUptoRow, standIns := [], harness := (true, "d4a3e83e2e8492882b0911a4c81b00cc1fa20377b4e41f3856c970eb54d54895"), looks := true }, kinds := [], alts := [], laidByText := true, laidKinds := [.data, .data, .data], laidTests := true, laidLooks := .later }
def HermiteSaysUptoCardSaid : Prop := Claim7.holds Tryz.pinned (.plain (OpenSpec.upto hermiteSaysSpec)) hermiteSaysUptoCard

/-- THE SECOND FORM's CARD OF 'basiskeeplaw.DetSays'. -/
def detSaysUptoCard : Claim7 := { stood := { row := detSaysUptoRow, standIns := [], harness := (true, "d4a3e83e2e8492882b0911a4c81b00cc1fa20377b4e41f3856c970eb54d54895"), looks := true }, kinds := [], alts := [], laidByText := true, laidKinds := [.data, .data, .data], laidTests := true, laidLooks := .later }
def DetSaysUptoCardSaid : Prop := Claim7.holds Tryz.pinned (.plain (OpenSpec.upto detSaysSpec)) detSaysUptoCard

/-- THE SECOND FORM's CARD OF 'basiskeeplaw.SmithSays'. -/
def smithSaysUptoCard : Claim7 := { stood := { row := smithSaysUptoRow, standIns := [], harness := (true, "d4a3e83e2e8492882b0911a4c81b00cc1fa20377b4e41f3856c970eb54d54895"), looks := true }, kinds := [], alts := [], laidByText := true, laidKinds := [.data, .data, .data], laidTests := true, laidLooks := .later }
def SmithSaysUptoCardSaid : Prop := Claim7.holds Tryz.pinned (.plain (OpenSpec.upto smithSaysSpec)) smithSaysUptoCard

/-- THE SECOND FORM's CARD OF 'basiskeeplaw.KernelSays'. -/
def kernelSaysUptoCard : Claim7 := { stood := { row := kernelSaysUptoRow, standIns := [], harness := (true, "d4a3e83e2e8492882b0911a4c81b00cc1fa20377b4e41f3856c970eb54d54895"), looks := true }, kinds := [], alts := [], laidByText := true, laidKinds := [.data, .data, .data], laidTests := true, laidLooks := .later }
def KernelSaysUptoCardSaid : Prop := Claim7.holds Tryz.pinned (.plain (OpenSpec.upto kernelSaysSpec)) kernelSaysUptoCard
end Rows
end Go.Proofs.YtjblidoilphifabGreatDoor
