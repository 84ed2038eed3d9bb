/- How much of each row a vector is: lattice.shares. -/
import Derived.Test.YtajcdhaaldhlaaaGreatDoorTurnL
import Derived.Test.YtajcdhaaldhlaaaGreatDoorLatH
namespace Go.Proofs.YtajcdhaaldhlaaaGreatDoor
open Go.RowKit Limbs

def SharePost (w : World) (n nv nx : Nat) (hs : List (List Int)) (p : Nat → Nat) (zs : List Int) (e : Ending) (w' : World) : Prop :=
 Below w.heap.size w w' ∧ ((Lat hs.length n (fun k b => (hs.getD k []).getD b 0) (fun b => zs.getD b 0) ∧ ∃ P, e = .returned (.tuple #[.slice (some ⟨P, 0, none⟩) hs.length hs.length, .bool true]) ∧ VecO w w' P (muchL hs p zs) (nx + hs.length * (nv + 2) + 1)) ∨
  (¬ Lat hs.length n (fun k b => (hs.getD k []).getD b 0) (fun b => zs.getD b 0) ∧ e = .returned (.tuple #[.slice none 0 0, .bool false])))

structure ShareI (w W : World) (n nv nx : Nat) (u : Value) (hs : List (List Int)) (p : Nat → Nat) (zs : List Int) (k : Nat) (left : Value) : Prop where
 vec : VecN W left (leftL hs p zs k) (nx + k * (nv + 2))
 off : ∀ b o l c, left = .slice (some ⟨b, o, none⟩) l c → b ≠ w.heap.size + 1
 much : VecO w W (w.heap.size + 1) ((muchL hs p zs).take k ++ List.replicate ((muchL hs p zs).length - k) 0) (nx + hs.length * (nv + 2) + 1)
 box : Box W w.heap.size (.int .i64 (n : Int)) u
 rest : ∀ i, i < k → (leftL hs p zs i).getD (p i) 0 % (hs.getD i []).getD (p i) 0 = 0

theorem ShareI.later {w W W' : World} {n nv nx : Nat} {u : Value} {hs : List (List Int)} {p : Nat → Nat} {zs : List Int} {k : Nat} {left : Value} (h : ShareI w W n nv nx u hs p zs k left) (hb : Below W.heap.size W W') : ShareI w W' n nv nx u hs p zs k left :=
 ⟨h.vec.below hb (Nat.le_refl _), h.off, h.much.later hb, h.box.later hb (by have := h.much.lt; omega), h.rest⟩

theorem ShareI.step {w W : World} {n nv nx : Nat} {u : Value} {hs : List (List Int)} {p : Nat → Nat} {zs : List Int} {k : Nat} {left : Value} (h : ShareI w W n nv nx u hs p zs k left) (hk : k < hs.length) {T cap : Nat} (hT : VecN W (.slice (some ⟨T, 0, none⟩) (leftL hs p zs (k + 1)).length cap) (leftL hs p zs (k + 1)) (nx + (k + 1) * (nv + 2))) (hne : T ≠ w.heap.size + 1)
  (hr : (leftL hs p zs k).getD (p k) 0 % (hs.getD k []).getD (p k) 0 = 0) {rn : Bool} {ro : Option Addr} {rl rc : Nat} (hq : NumL W (.agg #[.bool rn, .slice ro rl rc]) ((muchL hs p zs).getD k 0) (nx + hs.length * (nv + 2) + 1)) :
  ShareI w ((W.setCell ⟨w.heap.size + 1, k * 2, none⟩ (.bool rn)).setCell ⟨w.heap.size + 1, k * 2 + 1, none⟩ (.slice ro rl rc)) n nv nx u hs p zs (k + 1) (.slice (some ⟨T, 0, none⟩) (leftL hs p zs (k + 1)).length cap) := by
 have hml := muchL_len hs p zs
 have hfl := fill_len (muchL hs p zs) k (by omega)
 obtain ⟨neg0, o0, l0, c0, k0, k1, -⟩ := h.much.at k (by omega)
 have k1' : (W.setCell ⟨w.heap.size + 1, k * 2, none⟩ (.bool rn)).cell? ⟨w.heap.size + 1, k * 2 + 1, none⟩ = some (.slice o0 l0 c0) := (World.cell?_setCell_other (h := fun e => by simp at e) ..).trans k1
 refine ⟨(hT.other hne k0 (fun z e => by cases e)).other hne k1' (fun z e => by cases e), fun b o l c e => ?_, ?_, box_vec h.box (by omega) k _ _, fun i hi => ?_⟩
 ·simp only [Value.slice.injEq, Option.some.injEq, Addr.mk.injEq, and_true] at e
  omega
 ·have := h.much.set (k := k) (by omega) hq
  rwa [fill_step (muchL hs p zs) k (by omega)] at this
 ·by_cases e : i = k
  ·rw [e]; exact hr
  ·exact h.rest i (by omega)

end Go.Proofs.YtajcdhaaldhlaaaGreatDoor
