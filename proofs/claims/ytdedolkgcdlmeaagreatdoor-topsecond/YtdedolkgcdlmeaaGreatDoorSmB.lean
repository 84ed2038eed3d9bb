/- mat.common of 1 and 1; mat.chained of nothing but 1. -/
import Derived.Test.YtdedolkgcdlmeaaGreatDoorFold
import Derived.Test.YtdedolkgcdlmeaaGreatDoorVecW
import Derived.Test.YtdedolkgcdlmeaaGreatDoorUpP
namespace Go.Proofs.YtdedolkgcdlmeaaGreatDoor
open Go.RowKit Limbs

theorem Box.alloc {W : World} {B : Nat} {u0 u1 : Value} (h : Box W B u0 u1) (hB : B < W.heap.size) (ob : Obj) : Box (W.alloc ob) B u0 u1 := h.later ((Below.refl W.heap.size W).alloc (Nat.le_refl _) ob) hB

theorem NumL.one {w : World} {v : Value} {n : Nat} (h : NumL w v 1 n) : NumL w v 1 2 := h.tight (by decide)

theorem ones_get (r k : Nat) (hk : k < r) : (List.replicate r (1 : Int)).getD k 0 = 1 := by
  rw [List.getD_eq_getElem?_getD, List.getElem?_replicate, if_pos hk]; rfl

end Go.Proofs.YtdedolkgcdlmeaaGreatDoor
