/- Are two lattices the same? -/
import Derived.Test.YtdedolkgcdlmeaaGreatDoorLatF
import Derived.Test.YtdedolkgcdlmeaaGreatDoorSameM
namespace Go.Proofs.YtdedolkgcdlmeaaGreatDoor
open Go.RowKit Limbs

/-- Two lattices came in: their boxes. -/
theorem two_boxes (w : World) (a0 a1 b0 b1 : Value) (t t' : TypeId) : Box ((w.alloc (.cells #[a0, a1] t)).alloc (.cells #[b0, b1] t')) w.heap.size a0 a1 ∧ Box ((w.alloc (.cells #[a0, a1] t)).alloc (.cells #[b0, b1] t')) (w.heap.size + 1) b0 b1 ∧ Below w.heap.size w ((w.alloc (.cells #[a0, a1] t)).alloc (.cells #[b0, b1] t')) ∧ w.heap.size + 1 < ((w.alloc (.cells #[a0, a1] t)).alloc (.cells #[b0, b1] t')).heap.size :=
  ⟨(box_new w a0 a1 t _ rfl).later ((Below.refl (w.heap.size + 1) _).alloc (by simp) _) (by omega), box_new _ b0 b1 t' _ (by simp), ((Below.refl w.heap.size w).alloc (Nat.le_refl _) _).alloc (by simp) _, by simp⟩

end Go.Proofs.YtdedolkgcdlmeaaGreatDoor
