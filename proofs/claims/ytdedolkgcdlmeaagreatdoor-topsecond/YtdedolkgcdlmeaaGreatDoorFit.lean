/- Are these numbers, and not too great? -/
import Derived.Test.YtdedolkgcdlmeaaGreatDoorOf
namespace Go.Proofs.YtdedolkgcdlmeaaGreatDoor
open Go.RowKit Limbs

/-- A number as it came in: a sign, a slice, its limbs. -/
structure Raw where
  neg : Bool
  s : Value
  zs : List Int

def Raw.good (r : Raw) : Bool := decide (r.zs.length ≤ 12) && isNum r.neg r.zs

/-- A row of such, two cells each. -/
def Raws (w : World) (B : Nat) (xs : List Raw) : Prop :=
  B < w.heap.size ∧ ∀ i r, xs[i]? = some r → w.cell? ⟨B, i * 2, none⟩ = some (.bool r.neg) ∧ w.cell? ⟨B, i * 2 + 1, none⟩ = some r.s ∧ Lim w r.s r.zs

theorem Raws.below {B C : Nat} {w w' : World} {xs : List Raw} (h : Raws w B xs) (hb : Below C w w') (hC : w.heap.size ≤ C) : Raws w' B xs := by
  obtain ⟨h1, h2⟩ := h
  refine ⟨Nat.lt_of_lt_of_le h1 hb.size, fun i r hi => ?_⟩
  obtain ⟨h3, h4, h5⟩ := h2 i r hi
  exact ⟨(hb.cell (p := ⟨B, i * 2, none⟩) (Nat.lt_of_lt_of_le h1 hC)).trans h3, (hb.cell (p := ⟨B, i * 2 + 1, none⟩) (Nat.lt_of_lt_of_le h1 hC)).trans h4, h5.below hb hC⟩


end Go.Proofs.YtdedolkgcdlmeaaGreatDoor
