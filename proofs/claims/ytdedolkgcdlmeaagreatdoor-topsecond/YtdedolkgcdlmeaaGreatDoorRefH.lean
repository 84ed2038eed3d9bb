/- The reference: are two the same? -/
import Derived.Test.YtdedolkgcdlmeaaGreatDoorRefG
import Derived.Test.YtdedolkgcdlmeaaGreatDoorRaws
namespace Go.Proofs.YtdedolkgcdlmeaaGreatDoor
open Go.RowKit Limbs Digs

end Go.Proofs.YtdedolkgcdlmeaaGreatDoor
