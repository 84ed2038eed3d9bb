/- mat.Smith of what rows make nought of: nothing but 1. -/
import Derived.Test.YtdedolkgcdlmeaaGreatDoorSmA
import Derived.Test.YtdedolkgcdlmeaaGreatDoorSmB
import Derived.Test.YtdedolkgcdlmeaaGreatDoorFormB
import Derived.Test.YtdedolkgcdlmeaaGreatDoorTurnW
import Derived.Test.YtdedolkgcdlmeaaGreatDoorHermite
namespace Go.Proofs.YtdedolkgcdlmeaaGreatDoor
open Go.RowKit Limbs

/-- For each row a vector of which that one makes 1, the others nought. -/
def Dual (ks : List (List Int)) (n : Nat) : Prop := ∀ i, i < ks.length → ∃ w : Nat → Int, ∀ l, l < ks.length → sumN n (fun j => ent ks l j * w j) = if l = i then 1 else 0

theorem VecO.ones {w W : World} {P r n : Nat} (h : VecO w W P (List.replicate r 1) n) : VecO w W P (List.replicate r 1) 2 :=
  ⟨h.vec.tight fun j hj => by rw [List.length_replicate] at hj; rw [ones_get r j hj]; decide, h.low, h.below, h.blk⟩

def SmPost (w : World) (r : Nat) (e : Ending) (w' : World) : Prop :=
  ∃ P, e = .returned (.tuple #[.slice (some ⟨P, 0, none⟩) r r, .nilIface]) ∧ VecO w w' P (List.replicate r 1) 2

end Go.Proofs.YtdedolkgcdlmeaaGreatDoor
