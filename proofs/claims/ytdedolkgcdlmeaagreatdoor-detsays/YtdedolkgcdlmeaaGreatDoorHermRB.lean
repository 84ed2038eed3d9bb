/- The reference's one form: what stands above pivots becomes less than they. -/
import Derived.Test.YtdedolkgcdlmeaaGreatDoorTl
import Derived.Deep.Cut
namespace Go.Proofs.YtdedolkgcdlmeaaGreatDoor
open Go.RowKit Limbs Digs

/-- How many digits while columns are done. -/
def eB (P c : Nat) : Nat := P + c * (P + 8)

end Go.Proofs.YtdedolkgcdlmeaaGreatDoor
