/- The reference: are rows of vectors the same? -/
import Derived.Test.YtdedolkgcdlmeaaGreatDoorRefS
import Derived.Test.YtdedolkgcdlmeaaGreatDoorMats
namespace Go.Proofs.YtdedolkgcdlmeaaGreatDoor
open Go.RowKit Limbs

end Go.Proofs.YtdedolkgcdlmeaaGreatDoor
