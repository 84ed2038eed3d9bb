/- The reference's greatest common, walked. -/
import Derived.Test.YtdedolkgcdlmeaaGreatDoorGcdRA
namespace Go.Proofs.YtdedolkgcdlmeaaGreatDoor
open Go.RowKit Limbs Digs

end Go.Proofs.YtdedolkgcdlmeaaGreatDoor
