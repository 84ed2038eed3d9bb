/-
  DERIVED. GIVEN WITH THE SEED: THE CARDS: each row of YtmeefloajhffbaaDoorRows.lean that lists a variable, with what it lists TIED to the program's text (the seventh form; the later family's looks); each row that meets fmt, with fmt's text TOLD by the authors' own Lean function (tested against real Go, not proved from fmt's source: count such statements apart). THE CARD IS WHAT COUNTS. Prove the row's statement (the work); the ties are given (YtmeefloajhffbaaDoorTie.lean); close each card by the builder's one call (the guide's Derived/Test/ToyasCard.lean, 'card_holds'). Laid BY PROGRAM, IN A SANDBOX (cutbox-door.mjs). By AI agents, Wed Nov 11 2026. No macro, syntax, notation, axiom, sorry.
-/
import Derived.Test.YtmeefloajhffbaaDoorRows
import GoSem.ClaimSeven
namespace Go.Proofs.YtmeefloajhffbaaDoor
namespace Rows

/-- THE TIED CARD OF 'basiskeeptop.TopDet'. -/
def topDetCard : Claim7 := { stood := { row := topDetRow, standIns := [], harness := (true, "78feed01c95c2c284131c42bfd03bca58f384a2dc81945bc79dae797879bc24c"), looks := false }, kinds := [], alts := [], laidByText := true, laidKinds := [.data, .data, .data], laidTests := true, laidLooks := .later }
def TopDetCardSaid : Prop := Claim7.holds Tryd.pinned (.plain (OpenSpec.ofChange topDetSpec)) topDetCard

/-- THE TIED CARD OF 'basiskeeptop.TopSmith'. -/
def topSmithCard : Claim7 := { stood := { row := topSmithRow, standIns := [], harness := (true, "78feed01c95c2c284131c42bfd03bca58f384a2dc81945bc79dae797879bc24c"), looks := false }, kinds := [], alts := [], laidByText := true, laidKinds := [.data, .data, .data], laidTests := true, laidLooks := .later }
def TopSmithCardSaid : Prop := Claim7.holds Tryd.pinned (.plain (OpenSpec.ofChange topSmithSpec)) topSmithCard

/-- THE SECOND FORM's CARD OF 'basiskeeptop.TopDet'. -/
def topDetUptoCard : Claim7 := { stood := { row := topDetUptoRow, standIns := [], harness := (true, "78feed01c95c2c284131c42bfd03bca58f384a2dc81945bc79dae797879bc24c"), looks := false }, kinds := [], alts := [], laidByText := true, laidKinds := [.data, .data, .data], laidTests := true, laidLooks := .later }
def TopDetUptoCardSaid : Prop := Claim7.holds Tryd.pinned (.plain (OpenSpec.upto topDetSpec)) topDetUptoCard

/-- THE SECOND FORM's CARD OF 'basiskeeptop.TopSmith'. -/
def topSmithUptoCard : Claim7 := { stood := { row := topSmithUptoRow, standIns := [], harness := (true, "78feed01c95c2c284131c42bfd03bca58f384a2dc81945bc79dae797879bc24c"), looks := false }, kinds := [], alts := [], laidByText := true, laidKinds := [.data, .data, .data], laidTests := true, laidLooks := .later }
def TopSmithUptoCardSaid : Prop := Claim7.holds Tryd.pinned (.plain (OpenSpec.upto topSmithSpec)) topSmithUptoCard
end Rows
end Go.Proofs.YtmeefloajhffbaaDoor
