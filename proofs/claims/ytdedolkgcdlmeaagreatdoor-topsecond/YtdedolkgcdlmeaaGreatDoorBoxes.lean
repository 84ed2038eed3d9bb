/- What stands in variables, carried from world to world. -/
import Derived.Test.YtdedolkgcdlmeaaGreatDoorBoxB
import Derived.Test.YtdedolkgcdlmeaaGreatDoorLatS
import Derived.Test.YtdedolkgcdlmeaaGreatDoorLatT
import Derived.Test.YtdedolkgcdlmeaaGreatDoorLatM
namespace Go.Proofs.YtdedolkgcdlmeaaGreatDoor
open Go.RowKit Limbs Digs

/-- A lattice, and what made it. -/
structure LatG (W : World) (v : Value) (n : Nat) (hs : List (List Int)) (nv : Nat) : Prop where
  lat : LatN W v n hs nv

theorem LatG.later {W W' : World} {v : Value} {n : Nat} {hs : List (List Int)} {nv : Nat} (h : LatG W v n hs nv) (hb : Below W.heap.size W W') : LatG W' v n hs nv := ⟨h.lat.below hb⟩

theorem MadeGot.later {W W' : World} {nI : Int} {rs : List (List Int)} {i : Int} {o : Option Addr} {l c : Nat} {ok : Bool} (h : MadeGot W nI rs i o l c ok) (hb : Below W.heap.size W W') : MadeGot W' nI rs i o l c ok := h.keep fun _ _ _ _ _ h => h.below hb

theorem good_parts' {nI : Int} {rs : List (List Int)} (h : goodG nI rs = true) : (1 ≤ nI ∧ nI ≤ 4 ∧ rs.length ≤ 8) ∧ ∀ r ∈ rs, goodRow nI r = true := by
  unfold goodG at h
  rw [Bool.and_eq_true, decide_eq_true_eq, List.all_eq_true] at h
  exact h

/-- A vector. -/
structure VecG (W : World) (v : Value) (zs : List Int) (n : Nat) : Prop where
  vec : VecN W v zs n

theorem VecG.later {W W' : World} {v : Value} {zs : List Int} {n : Nat} (h : VecG W v zs n) (hb : Below W.heap.size W W') : VecG W' v zs n := ⟨h.vec.below hb (Nat.le_refl _)⟩

end Go.Proofs.YtdedolkgcdlmeaaGreatDoor
