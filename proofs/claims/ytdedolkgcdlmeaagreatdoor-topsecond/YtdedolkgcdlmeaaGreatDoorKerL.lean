/- What rows make nought of, by rows with units behind them. No Go in it. -/
import Derived.Test.YtdedolkgcdlmeaaGreatDoorMeetB
namespace Go.Proofs.YtdedolkgcdlmeaaGreatDoor
open Go.RowKit Limbs

/-- What a row makes of a vector. -/
def dotL (n : Nat) (r v : List Int) : Int := sumN n (fun b => r.getD b 0 * v.getD b 0)

/-- A unit. -/
def unitL (n j : Nat) : List Int := (List.range n).map fun b => if b = j then 1 else 0

/-- Of each place a row: what the rows make of its unit, and behind that the unit. -/
def tracedL (ms : List (List Int)) (n : Nat) : List (List Int) := (List.range n).map fun j => (ms.map fun r => r.getD j 0) ++ unitL n j

theorem map_getD0 (ms : List (List Int)) (g : List Int → Int) (i : Nat) (hi : i < ms.length) : (ms.map g).getD i 0 = g (ms.getD i []) := by
  rw [getD_row hi, List.getD_eq_getElem?_getD, List.getElem?_eq_getElem (by rw [List.length_map]; exact hi), Option.getD_some, List.getElem_map]

end Go.Proofs.YtdedolkgcdlmeaaGreatDoor
