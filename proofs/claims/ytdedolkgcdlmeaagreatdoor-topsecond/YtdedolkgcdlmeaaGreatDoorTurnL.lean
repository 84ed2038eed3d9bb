/- Rows turned about, put to each other, there twice: they generate the same. -/
import Derived.Test.YtdedolkgcdlmeaaGreatDoorOnes
namespace Go.Proofs.YtdedolkgcdlmeaaGreatDoor
open Go.RowKit Limbs

theorem Gens.scale {n : Nat} {S : List Int → Prop} {u : List Int} (h : Gens n S u) (z : Int) : Gens n S (u.map (z * ·)) := by
  rw [map_one]
  exact .comb z 0 h h

/-- The row before it is put to. -/
def sRow (ms : List (List Int)) (b x : Nat) : List Int := if x = b then ((ms.getD x []).map (1 * ·)).map (-1 * ·) else (ms.getD x []).map (1 * ·)

def tRow (ms : List (List Int)) (a b : Nat) (z : Int) (x : Nat) : List Int :=
  if x = a ∧ a ≠ b then List.zipWith (fun x y => x + y) (sRow ms b x) ((ms.getD b []).map (z * ·)) else sRow ms b x

def tList (ms : List (List Int)) (a b : Nat) (z : Int) : Nat → List (List Int)
  | 0 => []
  | d + 1 => tList ms a b z d ++ [tRow ms a b z (ms.length - 1 - d)]

end Go.Proofs.YtdedolkgcdlmeaaGreatDoor
