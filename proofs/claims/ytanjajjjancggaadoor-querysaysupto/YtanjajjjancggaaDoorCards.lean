/-
  DERIVED. GIVEN WITH THE SEED: THE CARDS: each row of YtanjajjjancggaaDoorRows.lean that lists a variable, with what it lists TIED to the program's text (the seventh form; the later family's looks); each row that meets fmt, with fmt's text TOLD by the authors' own Lean function (tested against real Go, not proved from fmt's source: count such statements apart). THE CARD IS WHAT COUNTS. Prove the row's statement (the work); the ties are given (YtanjajjjancggaaDoorTie.lean); close each card by the builder's one call (the guide's Derived/Test/ToyasCard.lean, 'card_holds'). Laid BY PROGRAM, IN A SANDBOX (cutbox-door.mjs). By AI agents, Wed Nov 11 2026. No macro, syntax, notation, axiom, sorry.
-/
import Derived.Test.YtanjajjjancggaaDoorRows
import GoSem.ClaimSeven
namespace Go.Proofs.YtanjajjjancggaaDoor
namespace Rows

/-- THE TIED CARD OF 'basiskeeplaw.QuerySays'. -/
def querySaysCard : Claim7 := { stood := { row := querySaysRow, standIns := [], harness := (true, "56d6ecb06f5001ebbb13c3226308860c7a65e2340759b4f3d9f63cb9c9559744"), looks := true }, kinds := [], alts := [], laidByText := true, laidKinds := [.data, .data, .data, .sentinel, .sentinel], laidTests := true, laidLooks := .later }
def QuerySaysCardSaid : Prop := Claim7.holds Tryd.pinned (.plain (OpenSpec.ofChange querySaysSpec)) querySaysCard

/-- THE TIED CARD OF 'basiskeeptop.TopQuery'. -/
def topQueryCard : Claim7 := { stood := { row := topQueryRow, standIns := [], harness := (true, "56d6ecb06f5001ebbb13c3226308860c7a65e2340759b4f3d9f63cb9c9559744"), looks := true }, kinds := [], alts := [], laidByText := true, laidKinds := [.data, .data, .data, .sentinel, .sentinel], laidTests := true, laidLooks := .later }
def TopQueryCardSaid : Prop := Claim7.holds Tryd.pinned (.plain (OpenSpec.ofChange topQuerySpec)) topQueryCard

/-- THE SECOND FORM's CARD OF 'basiskeeplaw.QuerySays'. -/
def querySaysUptoCard : Claim7 := { stood := { row := querySaysUptoRow, standIns := [], harness := (true, "56d6ecb06f5001ebbb13c3226308860c7a65e2340759b4f3d9f63cb9c9559744"), looks := true }, kinds := [], alts := [], laidByText := true, laidKinds := [.data, .data, .data, .sentinel, .sentinel], laidTests := true, laidLooks := .later }
def QuerySaysUptoCardSaid : Prop := Claim7.holds Tryd.pinned (.plain (OpenSpec.upto querySaysSpec)) querySaysUptoCard

/-- THE SECOND FORM's CARD OF 'basiskeeptop.TopQuery'. -/
def topQueryUptoCard : Claim7 := { stood := { row := topQueryUptoRow, standIns := [], harness := (true, "56d6ecb06f5001ebbb13c3226308860c7a65e2340759b4f3d9f63cb9c9559744"), looks := true }, kinds := [], alts := [], laidByText := true, laidKinds := [.data, .data, .data, .sentinel, .sentinel], laidTests := true, laidLooks := .later }
def TopQueryUptoCardSaid : Prop := Claim7.holds Tryd.pinned (.plain (OpenSpec.upto topQuerySpec)) topQueryUptoCard
end Rows
end Go.Proofs.YtanjajjjancggaaDoor
