/- The sum of two lattices: what generates it. -/
import Derived.Test.YtmeefloajhffbaaDoorMats
import Derived.Test.YtmeefloajhffbaaDoorShareL

namespace Go.Proofs.YtmeefloajhffbaaDoor
open Go.RowKit Limbs

end Go.Proofs.YtmeefloajhffbaaDoor

/- Rows turned about, put to each other, there twice: they generate the same. -/
namespace Go.Proofs.YtmeefloajhffbaaDoor
open Go.RowKit Limbs

/-- The row before it is put to. -/
def sRow (ms : List (List Int)) (b x : Nat) : List Int := if x = b then ((ms.getD x []).map (1 * ·)).map (-1 * ·) else (ms.getD x []).map (1 * ·)

def tRow (ms : List (List Int)) (a b : Nat) (z : Int) (x : Nat) : List Int :=
  if x = a ∧ a ≠ b then List.zipWith (fun x y => x + y) (sRow ms b x) ((ms.getD b []).map (z * ·)) else sRow ms b x

def tList (ms : List (List Int)) (a b : Nat) (z : Int) : Nat → List (List Int)
  | 0 => []
  | d + 1 => tList ms a b z d ++ [tRow ms a b z (ms.length - 1 - d)]

theorem nb_ok : ∀ n, n < 9 → nbK n (n * 8 + 2) 8 n ≤ 100000 ∧ nbK n (n * (n * 8 + 2) + 2) (n * 8 + 2) n ≤ 100000 ∧ nbK n (n * 13 + 2) 13 n ≤ 100000 := by decide

end Go.Proofs.YtmeefloajhffbaaDoor

/- What two lattices have in common, by rows twice as wide. -/
namespace Go.Proofs.YtmeefloajhffbaaDoor
open Go.RowKit Limbs

/-- The rows twice as wide. -/
def wideL (n : Nat) (hs ks : List (List Int)) : List (List Int) := hs.map (fun r => r ++ r) ++ ks.map (fun r => r ++ List.replicate n 0)

end Go.Proofs.YtmeefloajhffbaaDoor

/- Of rows in the one form those that are nought in the first half. -/
namespace Go.Proofs.YtmeefloajhffbaaDoor
open Go.RowKit Limbs

/-- Those behind, without the first half. -/
def behindL (n : Nat) (ts : List (List Int)) : List (List Int) := (ts.filter fun r => decide ((n : Int) ≤ first r)).map (·.drop n)

theorem getD_drop' (r : List Int) (n j : Nat) : (r.drop n).getD j 0 = r.getD (n + j) 0 := by
  rw [List.getD_eq_getElem?_getD, List.getElem?_drop, List.getD_eq_getElem?_getD]

end Go.Proofs.YtmeefloajhffbaaDoor
