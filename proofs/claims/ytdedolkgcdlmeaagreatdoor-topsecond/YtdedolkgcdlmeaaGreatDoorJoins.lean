/- Texts put together with one byte between, and cut at it again. No Go in it. -/
import Derived.Test.YtdedolkgcdlmeaaGreatDoorLimbs
import Derived.Lib.Split
import Derived.Lib.Join
namespace Go.Proofs.YtdedolkgcdlmeaaGreatDoor
open Go

end Go.Proofs.YtdedolkgcdlmeaaGreatDoor
