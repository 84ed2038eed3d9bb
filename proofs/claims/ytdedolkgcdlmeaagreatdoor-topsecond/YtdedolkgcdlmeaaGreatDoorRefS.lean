/- The reference: are two numbers, or vectors, the same? -/
import Derived.Test.YtdedolkgcdlmeaaGreatDoorVecB
import Derived.Test.YtdedolkgcdlmeaaGreatDoorRaws
import Derived.Test.YtdedolkgcdlmeaaGreatDoorOps2
namespace Go.Proofs.YtdedolkgcdlmeaaGreatDoor
open Go.RowKit Limbs

end Go.Proofs.YtdedolkgcdlmeaaGreatDoor
