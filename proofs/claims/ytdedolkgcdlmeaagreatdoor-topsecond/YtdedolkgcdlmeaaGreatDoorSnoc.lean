/- Rows that one more is put to. -/
import Derived.Test.YtdedolkgcdlmeaaGreatDoorGroups
namespace Go.Proofs.YtdedolkgcdlmeaaGreatDoor
open Go.RowKit Limbs

theorem heap_lt {w : World} {b : Nat} {o : Obj} (h : w.heap[b]? = some o) : b < w.heap.size := by
  rcases Nat.lt_or_ge b w.heap.size with hlt | hge
  · exact hlt
  · rw [Array.getElem?_eq_none hge] at h; cases h

/-- One more is put to a row that is the call's own. -/
theorem below_app {wr w3 : World} {B n : Nat} {t : TypeId} {v x : Value} {xs : List Value} (hown : wr.ownsRow B t 1 v n xs) (hB : B ≤ wr.heap.size) (hg : (wr.alloc (.cells #[x] t)).grownBy w3 v.ownBlock) : Below B wr w3 :=
  ((Below.refl _ _).alloc hB _).grown hg (by simp; omega) (fun k hk => (hown.lt k hk).1)

theorem Lim.owns {w : World} {base n : Nat} {v : Value} {ls : List Int} (h : w.ownsRow base 104 1 v n (ls.map (Value.int .u32))) (hd : LB ls) (hl : ls.length ≤ 1000000) : Lim w v ls := by
  have hn : n = ls.length := by have := h.1; rw [List.length_map] at this; omega
  subst hn
  rcases h.2 with ⟨rfl, h0⟩ | ⟨g, cap, cur, rfl, hb, hg, hc, hm, hs, ht⟩
  · have : ls = [] := List.eq_nil_of_length_eq_zero h0
    subst this
    exact ⟨none, 0, rfl, Nat.le_refl _, by simp, hd, fun h => absurd h (by simp)⟩
  · refine ⟨_, cap, rfl, hc, hl, hd, fun h0 => ⟨g, 0, rfl, heap_lt hg, fun i hi => ?_⟩⟩
    have := h.cellAt i (by omega)
    rw [Nat.zero_add, this]
    simp [List.getD_eq_getElem?_getD, hi]

theorem LB_snoc {ls : List Int} (h : LB ls) {r : Int} (hr : 0 ≤ r ∧ r < 4294967296) : LB (ls ++ [r]) := by
  intro i
  rw [List.getD_eq_getElem?_getD]
  rcases Nat.lt_trichotomy i ls.length with hi | hi | hi
  · rw [List.getElem?_append_left hi, ← List.getD_eq_getElem?_getD]; exact h i
  · subst hi; simp; omega
  · rw [List.getElem?_eq_none (by simp; omega)]; simp

theorem lv_snoc (ls : List Int) (r : Int) : lv (ls ++ [r]) = lv ls + bp ls.length * r := by
  rw [lv_append]; simp [lv]

end Go.Proofs.YtdedolkgcdlmeaaGreatDoor
