/- The rooms of an index. No walk in it. -/
import Derived.Test.YtdedolkgcdlmeaaGreatDoorIdxC
import Derived.Test.YtdedolkgcdlmeaaGreatDoorMeetT
namespace Go.Proofs.YtdedolkgcdlmeaaGreatDoor
open Go.RowKit Limbs Digs

instance (n nv : Nat) : Decidable (RoomS n nv) := decidable_of_iff (nbK n (n * nv + 2) nv n ≤ 100000 ∧ ∀ r, r < n + 1 → nbK r (r * (n * nv + 2) + 2) (n * nv + 2) r ≤ 100000 ∧ (r < n → nbK r (r * (r * (n * nv + 2) + 2) + 2) (r * (n * nv + 2) + 2) r ≤ 100000))
  ⟨fun ⟨a, b⟩ => ⟨a, fun h hh => b h (by omega)⟩, fun ⟨a, b⟩ => ⟨a, fun h hh => b h (by omega)⟩⟩

theorem roomS7 : ∀ m, 1 ≤ m → m ≤ 4 → RoomS m (6 + 1) := fun m _ h => (by decide : ∀ m, m < 5 → RoomS m 7) m (by omega)

end Go.Proofs.YtdedolkgcdlmeaaGreatDoor
