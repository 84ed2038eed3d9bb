/- The sum of two lattices: what generates it. -/
import Derived.Test.YtdedolkgcdlmeaaGreatDoorOnes
namespace Go.Proofs.YtdedolkgcdlmeaaGreatDoor
open Go.RowKit Limbs

end Go.Proofs.YtdedolkgcdlmeaaGreatDoor
