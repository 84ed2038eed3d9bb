/-
  DERIVED. GIVEN WITH THE SEED: THE CARDS: each row of YtajcdhaaldhlaaaGreatDoorRows.lean that lists a variable, with what it lists TIED to the program's text (the seventh form; the later family's looks); each row that meets fmt, with fmt's text TOLD by the authors' own Lean function (tested against real Go, not proved from fmt's source: count such statements apart). THE CARD IS WHAT COUNTS. Prove the row's statement (the work); the ties are given (YtajcdhaaldhlaaaGreatDoorTie.lean); close each card by the builder's one call (the guide's Derived/Test/ToyasCard.lean, 'card_holds'). Laid BY PROGRAM, IN A SANDBOX (cutbox-door.mjs). By AI agents, Wed Nov 11 2026. No macro, syntax, notation, axiom, sorry.
-/
import Derived.Test.YtajcdhaaldhlaaaGreatDoorRows
import GoSem.ClaimSeven
namespace Go.Proofs.YtajcdhaaldhlaaaGreatDoor
namespace Rows

/-- THE TIED CARD OF 'basiskeeptop.TopMeet'. -/
def topMeetCard : Claim7 := { stood := { row := topMeetRow, standIns := [], harness := (true, "66a95a49f17b8039e11eb680f6a2741d9a5807eddee323ee0bdd74b87e161578"), looks := true }, kinds := [], alts := [], laidByText := true, laidKinds := [.data, .data, .data], laidTests := true, laidLooks := .later }
def TopMeetCardSaid : Prop := Claim7.holds Tryz.pinned (.plain (OpenSpec.ofChange topMeetSpec)) topMeetCard

/-- THE TIED CARD OF 'basiskeeptop.TopModular'. -/
def topModularCard : Claim7 := { stood := { row := topModularRow, standIns := [], harness := (true, "66a95a49f17b8039e11eb680f6a2741d9a5807eddee323ee0bdd74b87e161578"), looks := true }, kinds := [], alts := [], laidByText := true, laidKinds := [.data, .data, .data], laidTests := true, laidLooks := .later }
def TopModularCardSaid : Prop := Claim7.holds Tryz.pinned (.plain (OpenSpec.ofChange topModularSpec)) topModularCard

/-- THE TIED CARD OF 'basiskeeptop.TopIndex'. -/
def topIndexCard : Claim7 := { stood := { row := topIndexRow, standIns := [], harness := (true, "66a95a49f17b8039e11eb680f6a2741d9a5807eddee323ee0bdd74b87e161578"), looks := true }, kinds := [], alts := [], laidByText := true, laidKinds := [.data, .data, .data], laidTests := true, laidLooks := .later }
def TopIndexCardSaid : Prop := Claim7.holds Tryz.pinned (.plain (OpenSpec.ofChange topIndexSpec)) topIndexCard

/-- THE TIED CARD OF 'basiskeeptop.TopSecond'. -/
def topSecondCard : Claim7 := { stood := { row := topSecondRow, standIns := [], harness := (true, "66a95a49f17b8039e11eb680f6a2741d9a5807eddee323ee0bdd74b87e161578"), looks := true }, kinds := [], alts := [], laidByText := true, laidKinds := [.data, .data, .data], laidTests := true, laidLooks := .later }
def TopSecondCardSaid : Prop := Claim7.holds Tryz.pinned (.plain (OpenSpec.ofChange topSecondSpec)) topSecondCard

/-- THE TIED CARD OF 'basiskeeptop.TopFill'. -/
def topFillCard : Claim7 := { stood := { row := topFillRow, standIns := [], harness := (true, "66a95a49f17b8039e11eb680f6a2741d9a5807eddee323ee0bdd74b87e161578"), looks := true }, kinds := [], alts := [], laidByText := true, laidKinds := [.data, .data, .data], laidTests := true, laidLooks := .later }
def TopFillCardSaid : Prop := Claim7.holds Tryz.pinned (.plain (OpenSpec.ofChange topFillSpec)) topFillCard

/-- THE TIED CARD OF 'basiskeeptop.TopQuotient'. -/
def topQuotientCard : Claim7 := { stood := { row := topQuotientRow, standIns := [], harness := (true, "66a95a49f17b8039e11eb680f6a2741d9a5807eddee323ee0bdd74b87e161578"), looks := true }, kinds := [], alts := [], laidByText := true, laidKinds := [.data, .data, .data], laidTests := true, laidLooks := .later }
def TopQuotientCardSaid : Prop := Claim7.holds Tryz.pinned (.plain (OpenSpec.ofChange topQuotientSpec)) topQuotientCard

/-- THE SECOND FORM's CARD OF 'basiskeeptop.TopMeet'. -/
def topMeetUptoCard : Claim7 := { stood := { row := topMeetUptoRow, standIns := [], harness := (true, "66a95a49f17b8039e11eb680f6a2741d9a5807eddee323ee0bdd74b87e161578"), looks := true }, kinds := [], alts := [], laidByText := true, laidKinds := [.data, .data, .data], laidTests := true, laidLooks := .later }
def TopMeetUptoCardSaid : Prop := Claim7.holds Tryz.pinned (.plain (OpenSpec.upto topMeetSpec)) topMeetUptoCard

/-- THE SECOND FORM's CARD OF 'basiskeeptop.TopModular'. -/
def topModularUptoCard : Claim7 := { stood := { row := topModularUptoRow, standIns := [], harness := (true, "66a95a49f17b8039e11eb680f6a2741d9a5807eddee323ee0bdd74b87e161578"), looks := true }, kinds := [], alts := [], laidByText := true, laidKinds := [.data, .data, .data], laidTests := true, laidLooks := .later }
def TopModularUptoCardSaid : Prop := Claim7.holds Tryz.pinned (.plain (OpenSpec.upto topModularSpec)) topModularUptoCard

/-- THE SECOND FORM's CARD OF 'basiskeeptop.TopIndex'. -/
def topIndexUptoCard : Claim7 := { stood := { row := topIndexUptoRow, standIns := [], harness := (true, "66a95a49f17b8039e11eb680f6a2741d9a5807eddee323ee0bdd74b87e161578"), looks := true }, kinds := [], alts := [], laidByText := true, laidKinds := [.data, .data, .data], laidTests := true, laidLooks := .later }
def TopIndexUptoCardSaid : Prop := Claim7.holds Tryz.pinned (.plain (OpenSpec.upto topIndexSpec)) topIndexUptoCard

/-- THE SECOND FORM's CARD OF 'basiskeeptop.TopSecond'. -/
def topSecondUptoCard : Claim7 := { stood := { row := topSecondUptoRow, standIns := [], harness := (true, "66a95a49f17b8039e11eb680f6a2741d9a5807eddee323ee0bdd74b87e161578"), looks := true }, kinds := [], alts := [], laidByText := true, laidKinds := [.data, .data, .data], laidTests := true, laidLooks := .later }
def TopSecondUptoCardSaid : Prop := Claim7.holds Tryz.pinned (.plain (OpenSpec.upto topSecondSpec)) topSecondUptoCard

/-- THE SECOND FORM's CARD OF 'basiskeeptop.TopFill'. -/
def topFillUptoCard : Claim7 := { stood := { row := topFillUptoRow, standIns := [], harness := (true, "66a95a49f17b8039e11eb680f6a2741d9a5807eddee323ee0bdd74b87e161578"), looks := true }, kinds := [], alts := [], laidByText := true, laidKinds := [.data, .data, .data], laidTests := true, laidLooks := .later }
def TopFillUptoCardSaid : Prop := Claim7.holds Tryz.pinned (.plain (OpenSpec.upto topFillSpec)) topFillUptoCard

/-- THE SECOND FORM's CARD OF 'basiskeeptop.TopQuotient'. -/
def topQuotientUptoCard : Claim7 := { stood := { row := topQuotientUptoRow, standIns := [], harness := (true, "66a95a49f17b8039e11eb680f6a2741d9a5807eddee323ee0bdd74b87e161578"), looks := true }, kinds := [], alts := [], laidByText := true, laidKinds := [.data, .data, .data], laidTests := true, laidLooks := .later }
def TopQuotientUptoCardSaid : Prop := Claim7.holds Tryz.pinned (.plain (OpenSpec.upto topQuotientSpec)) topQuotientUptoCard
end Rows
end Go.Proofs.YtajcdhaaldhlaaaGreatDoor
