/- A text's rest. -/
import Derived.Test.YtjblidoilphifacDoorNum
namespace Go.Proofs.YtjblidoilphifacDoor
open Go.RowKit

/-- A text without its first statement. -/
def Code.tl : Code → Code
  | .seq _ b => b
  | c => c

end Go.Proofs.YtjblidoilphifacDoor
