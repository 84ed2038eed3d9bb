/- What two lattices have in common, by rows twice as wide. -/
import Derived.Test.YtdedolkgcdlmeaaGreatDoorTurnL

namespace Go.Proofs.YtdedolkgcdlmeaaGreatDoor
open Go.RowKit Limbs

/-- The rows twice as wide. -/
def wideL (n : Nat) (hs ks : List (List Int)) : List (List Int) := hs.map (fun r => r ++ r) ++ ks.map (fun r => r ++ List.replicate n 0)

end Go.Proofs.YtdedolkgcdlmeaaGreatDoor

/- Of rows in the one form those that are nought in the first half. -/
namespace Go.Proofs.YtdedolkgcdlmeaaGreatDoor
open Go.RowKit Limbs

/-- Those behind, without the first half. -/
def behindL (n : Nat) (ts : List (List Int)) : List (List Int) := (ts.filter fun r => decide ((n : Int) ≤ first r)).map (·.drop n)

end Go.Proofs.YtdedolkgcdlmeaaGreatDoor

/- What rows make nought of, by rows with units behind them. No Go in it. -/
namespace Go.Proofs.YtdedolkgcdlmeaaGreatDoor
open Go.RowKit Limbs

/-- What a row makes of a vector. -/
def dotL (n : Nat) (r v : List Int) : Int := sumN n (fun b => r.getD b 0 * v.getD b 0)

/-- A unit. -/
def unitL (n j : Nat) : List Int := (List.range n).map fun b => if b = j then 1 else 0

/-- Of each place a row: what the rows make of its unit, and behind that the unit. -/
def tracedL (ms : List (List Int)) (n : Nat) : List (List Int) := (List.range n).map fun j => (ms.map fun r => r.getD j 0) ++ unitL n j

theorem map_getD0 (ms : List (List Int)) (g : List Int → Int) (i : Nat) (hi : i < ms.length) : (ms.map g).getD i 0 = g (ms.getD i []) := by
  rw [getD_row hi, List.getD_eq_getElem?_getD, List.getElem?_eq_getElem (by rw [List.length_map]; exact hi), Option.getD_some, List.getElem_map]

end Go.Proofs.YtdedolkgcdlmeaaGreatDoor
