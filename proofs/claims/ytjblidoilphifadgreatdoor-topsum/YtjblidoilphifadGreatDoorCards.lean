/-
  DERIVED. GIVEN WITH THE SEED: THE CARDS: each row of YtjblidoilphifadGreatDoorRows.lean that lists a variable, with what it lists TIED to the program's text (the seventh form; the later family's looks); each row that meets fmt, with fmt's text TOLD by the authors' own Lean function (tested against real Go, not proved from fmt's source: count such statements apart). THE CARD IS WHAT COUNTS. Prove the row's statement (the work); the ties are given (YtjblidoilphifadGreatDoorTie.lean); close each card by the builder's one call (the guide's Derived/Test/ToyasCard.lean, 'card_holds'). Laid BY PROGRAM, IN A SANDBOX (cutbox-door.mjs). By AI agents, Wed Nov 11 2026. No macro, syntax, notation, axiom, sorry.
-/
import Derived.Test.YtjblidoilphifadGreatDoorRows
import GoSem.ClaimSeven
namespace Go.Proofs.YtjblidoilphifadGreatDoor
namespace Rows

/-- THE TIED CARD OF 'basiskeeplaw.BasisSays'. -/
def basisSaysCard : Claim7 := { stood := { row := basisSaysRow, standIns := [], harness := (true, "8a72917c2a918194240c2a865abe42e66bef1191b19ed5dcc63e32885b0aa4b4"), looks := true }, kinds := [], alts := [], laidByText := true, laidKinds := [.data, .data, .data], laidTests := true, laidLooks := .later }
def BasisSaysCardSaid : Prop := Claim7.holds Tryz.pinned (.plain (OpenSpec.ofChange basisSaysSpec)) basisSaysCard

/-- THE TIED CARD OF 'basiskeeplaw.IndexSays'. -/
def indexSaysCard : Claim7 := { stood := { row := indexSaysRow, standIns := [], harness := (true, "8a72917c2a918194240c2a865abe42e66bef1191b19ed5dcc63e32885b0aa4b4"), looks := true }, kinds := [], alts := [], laidByText := true, laidKinds := [.data, .data, .data], laidTests := true, laidLooks := .later }
def IndexSaysCardSaid : Prop := Claim7.holds Tryz.pinned (.plain (OpenSpec.ofChange indexSaysSpec)) indexSaysCard

/-- THE TIED CARD OF 'basiskeeptop.TopMember'. -/
def topMemberCard : Claim7 := { stood := { row := topMemberRow, standIns := [], harness := (true, "8a72917c2a918194240c2a865abe42e66bef1191b19ed5dcc63e32885b0aa4b4"), looks := true }, kinds := [], alts := [], laidByText := true, laidKinds := [.data, .data, .data], laidTests := true, laidLooks := .later }
def TopMemberCardSaid : Prop := Claim7.holds Tryz.pinned (.plain (OpenSpec.ofChange topMemberSpec)) topMemberCard

/-- THE TIED CARD OF 'basiskeeptop.TopGens'. -/
def topGensCard : Claim7 := { stood := { row := topGensRow, standIns := [], harness := (true, "8a72917c2a918194240c2a865abe42e66bef1191b19ed5dcc63e32885b0aa4b4"), looks := true }, kinds := [], alts := [], laidByText := true, laidKinds := [.data, .data, .data], laidTests := true, laidLooks := .later }
def TopGensCardSaid : Prop := Claim7.holds Tryz.pinned (.plain (OpenSpec.ofChange topGensSpec)) topGensCard

/-- THE TIED CARD OF 'basiskeeptop.TopSum'. -/
def topSumCard : Claim7 := { stood := { row := topSumRow, standIns := [], harness := (true, "8a72917c2a918194240c2a865abe42e66bef1191b19ed5dcc63e32885b0aa4b4"), looks := true }, kinds := [], alts := [], laidByText := true, laidKinds := [.data, .data, .data], laidTests := true, laidLooks := .later }
def TopSumCardSaid : Prop := Claim7.holds Tryz.pinned (.plain (OpenSpec.ofChange topSumSpec)) topSumCard

/-- THE SECOND FORM's CARD OF 'basiskeeplaw.BasisSays'. -/
def basisSaysUptoCard : Claim7 := { stood := { row := basisSaysUptoRow, standIns := [], harness := (true, "8a72917c2a918194240c2a865abe42e66bef1191b19ed5dcc63e32885b0aa4b4"), looks := true }, kinds := [], alts := [], laidByText := true, laidKinds := [.data, .data, .data], laidTests := true, laidLooks := .later }
def BasisSaysUptoCardSaid : Prop := Claim7.holds Tryz.pinned (.plain (OpenSpec.upto basisSaysSpec)) basisSaysUptoCard

/-- THE SECOND FORM's CARD OF 'basiskeeplaw.IndexSays'. -/
def indexSaysUptoCard : Claim7 := { stood := { row := indexSaysUptoRow, standIns := [], harness := (true, "8a72917c2a918194240c2a865abe42e66bef1191b19ed5dcc63e32885b0aa4b4"), looks := true }, kinds := [], alts := [], laidByText := true, laidKinds := [.data, .data, .data], laidTests := true, laidLooks := .later }
def IndexSaysUptoCardSaid : Prop := Claim7.holds Tryz.pinned (.plain (OpenSpec.upto indexSaysSpec)) indexSaysUptoCard

/-- THE SECOND FORM's CARD OF 'basiskeeptop.TopMember'. -/
def topMemberUptoCard : Claim7 := { stood := { row := topMemberUptoRow, standIns := [], harness := (true, "8a72917c2a918194240c2a865abe42e66bef1191b19ed5dcc63e32885b0aa4b4"), looks := true }, kinds := [], alts := [], laidByText := true, laidKinds := [.data, .data, .data], laidTests := true, laidLooks := .later }
def TopMemberUptoCardSaid : Prop := Claim7.holds Tryz.pinned (.plain (OpenSpec.upto topMemberSpec)) topMemberUptoCard

/-- THE SECOND FORM's CARD OF 'basiskeeptop.TopGens'. -/
def topGensUptoCard : Claim7 := { stood := { row := topGensUptoRow, standIns := [], harness := (true, "8a72917c2a918194240c2a865abe42e66bef1191b19ed5dcc63e32885b0aa4b4"), looks := true }, kinds := [], alts := [], laidByText := true, laidKinds := [.data, .data, .data], laidTests := true, laidLooks := .later }
def TopGensUptoCardSaid : Prop := Claim7.holds Tryz.pinned (.plain (OpenSpec.upto topGensSpec)) topGensUptoCard

/-- THE SECOND FORM's CARD OF 'basiskeeptop.TopSum'. -/
def topSumUptoCard : Claim7 := { stood := { row := topSumUptoRow, standIns := [], harness := (true, "8a72917c2a918194240c2a865abe42e66bef1191b19ed5dcc63e32885b0aa4b4"), looks := true }, kinds := [], alts := [], laidByText := true, laidKinds := [.data, .data, .data], laidTests := true, laidLooks := .later }
def TopSumUptoCardSaid : Prop := Claim7.holds Tryz.pinned (.plain (OpenSpec.upto topSumSpec)) topSumUptoCard
end Rows
end Go.Proofs.YtjblidoilphifadGreatDoor
