/- TopSum: the sum is the least lattice in which both lie. -/
import Derived.Test.YtjblidoilphifadGreatDoorDigs
import Derived.Test.YtjblidoilphifadGreatDoorText
import Derived.Test.YtjblidoilphifadGreatDoorSumL
namespace Go.Proofs.YtjblidoilphifadGreatDoor
open Go.RowKit Limbs Digs

/-- A variable of two cells that lies there. -/
def BoxL (W : World) (B : Nat) (u0 u1 : Value) : Prop := Box W B u0 u1 ∧ B < W.heap.size

theorem BoxL.later {W W' : World} {B : Nat} {u0 u1 : Value} (h : BoxL W B u0 u1) (hb : Below W.heap.size W W') : BoxL W' B u0 u1 := ⟨h.1.later hb h.2, Nat.lt_of_lt_of_le h.2 hb.size⟩

theorem BoxL.new (W : World) (u0 u1 : Value) (t : TypeId) : BoxL (W.alloc (.cells #[u0, u1] t)) W.heap.size u0 u1 := ⟨box_new W u0 u1 t _ rfl, by simp⟩

/-- A lattice, and what made it. -/
structure LatG (W : World) (v : Value) (n : Nat) (hs : List (List Int)) (nv : Nat) : Prop where
  lat : LatN W v n hs nv

theorem LatG.later {W W' : World} {v : Value} {n : Nat} {hs : List (List Int)} {nv : Nat} (h : LatG W v n hs nv) (hb : Below W.heap.size W W') : LatG W' v n hs nv := ⟨h.lat.below hb⟩

theorem MadeGot.later {W W' : World} {nI : Int} {rs : List (List Int)} {i : Int} {o : Option Addr} {l c : Nat} {ok : Bool} (h : MadeGot W nI rs i o l c ok) (hb : Below W.heap.size W W') : MadeGot W' nI rs i o l c ok := h.keep fun _ _ _ _ _ h => h.below hb

theorem good_parts' {nI : Int} {rs : List (List Int)} (h : goodG nI rs = true) : (1 ≤ nI ∧ nI ≤ 4 ∧ rs.length ≤ 8) ∧ ∀ r ∈ rs, goodRow nI r = true := by
  unfold goodG at h
  rw [Bool.and_eq_true, decide_eq_true_eq, List.all_eq_true] at h
  exact h

theorem below_new (W : World) (ob : Obj) : Below W.heap.size W (W.alloc ob) := (Below.refl _ _).alloc (Nat.le_refl _) _

end Go.Proofs.YtjblidoilphifadGreatDoor
