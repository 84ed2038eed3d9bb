/- A text's rest. -/
import Derived.Test.YtdedolkgcdlmeaaGreatDoorNum
namespace Go.Proofs.YtdedolkgcdlmeaaGreatDoor
open Go.RowKit

/-- A text without its first statement. -/
def Code.tl : Code → Code
  | .seq _ b => b
  | c => c

end Go.Proofs.YtdedolkgcdlmeaaGreatDoor
