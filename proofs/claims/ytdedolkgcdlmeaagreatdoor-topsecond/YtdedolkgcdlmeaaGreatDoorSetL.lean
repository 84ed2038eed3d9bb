/- A lattice's variable is written, in which another lattice stood: what others hold stays. -/
import Derived.Test.YtdedolkgcdlmeaaGreatDoorMeetT
namespace Go.Proofs.YtdedolkgcdlmeaaGreatDoor
open Go.RowKit Limbs

theorem in_sum {n : Nat} {hs ks ts : List (List Int)} (hl : ∀ r ∈ hs, r.length = n) (a : Alikes n (InL ts) (InL (hs ++ ks))) : ∀ u ∈ hs, Gens n (InL ts) u := fun u hu => (a u).2 (.base (List.mem_append_left _ hu) (hl u hu))

end Go.Proofs.YtdedolkgcdlmeaaGreatDoor
