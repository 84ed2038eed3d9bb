/- lattice.Index: of a lattice in one in which it lies. -/
import Derived.Test.YtdedolkgcdlmeaaGreatDoorIdxB
namespace Go.Proofs.YtdedolkgcdlmeaaGreatDoor
open Go.RowKit Limbs

def IdxPost (w : World) (hs ks : List (List Int)) (pk : Nat → Nat) (e : Ending) (w' : World) : Prop :=
  Below w.heap.size w w' ∧ ((hs.length < ks.length ∧ e = .returned (.tuple #[.agg #[.bool false, .slice none 0 0], .iface 102 (.int .i64 13)])) ∨
    (hs.length = ks.length ∧ ∃ v M, e = .returned (.tuple #[v, .nilIface]) ∧ NumL w' v (absI (det ks.length (ent (muchM hs ks pk)))) M ∧ M ≤ 100000))

end Go.Proofs.YtdedolkgcdlmeaaGreatDoor
