/- PackSaysCardSaid, proved: of any operations, any text and any bytes: the text of the catalog behind the operations, what a text is read as, an operation's bytes and what bytes are read as, are what the document's words say. No condition beside the card's own tie of seven variables to the program's text. -/
import Derived.Test.YtjdnhdcaifogmaaGreatDoorOpenO
import Derived.Test.YtjdnhdcaifogmaaGreatDoorCards
import Derived.Test.YtjdnhdcaifogmaaGreatDoorTie
import Derived.LaidMore
import Derived.LaidSub
import Derived.LaidLaws
import Derived.Lib.LaidTab
import Derived.ChangeMaps5
import Derived.OpenShut
import Derived.Stop.Joined
import Derived.SevenTiedAt
import Derived.Shelf.Vars
import Derived.Lay
import Derived.MakeChecks
import Derived.Carry
namespace Go.Proofs.YtjdnhdcaifogmaaGreatDoor
open Go.ChangeShapes Go.WideShapes Go.ChangeAt Go.RowKit Go.Joins

theorem Tryz.own : ownKnob Tryz.prog.godebug = none := by kernel_rfl
theorem Tryz.laidOut : laidOutB Tryz.prog = true := by kernel_rfl

end Go.Proofs.YtjdnhdcaifogmaaGreatDoor
