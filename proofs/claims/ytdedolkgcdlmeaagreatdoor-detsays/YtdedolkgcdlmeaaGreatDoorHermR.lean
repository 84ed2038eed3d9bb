/- The reference's one form: rows are put in. -/
import Derived.Test.YtdedolkgcdlmeaaGreatDoorHermRB
namespace Go.Proofs.YtdedolkgcdlmeaaGreatDoor
open Go.RowKit Limbs Digs

theorem MatR.mono {w : World} {v : Value} {zss : List (List Int)} {n m : Nat} (h : MatR w v zss n) (hm : n ≤ m) : MatR w v zss m := by
  obtain ⟨ao, cap, hv, h3, h4⟩ := h
  refine ⟨ao, cap, hv, h3, fun h0 => ?_⟩
  obtain ⟨b, e, hlt, hc⟩ := h4 h0
  refine ⟨b, e, hlt, fun i zs hi => ?_⟩
  obtain ⟨u, h5, h6⟩ := hc i zs hi
  exact ⟨u, h5, h6.mono hm⟩

end Go.Proofs.YtdedolkgcdlmeaaGreatDoor
