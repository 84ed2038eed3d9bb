/- Is a vector light? -/
import Derived.Test.YtdedolkgcdlmeaaGreatDoorOpenV
namespace Go.Proofs.YtdedolkgcdlmeaaGreatDoor
open Go.RowKit Limbs

def lightV (rs : List Raw) : Bool := decide (rs.length ≤ 10) && rs.all (fun r => decide (r.zs.length ≤ 8))

end Go.Proofs.YtdedolkgcdlmeaaGreatDoor
