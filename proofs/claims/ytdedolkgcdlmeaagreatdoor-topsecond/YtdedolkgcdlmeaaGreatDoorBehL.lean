/- Of rows those that are nought in the first places: one by one. -/
import Derived.Test.YtdedolkgcdlmeaaGreatDoorGrowV
import Derived.Test.YtdedolkgcdlmeaaGreatDoorVecW
import Derived.Test.YtdedolkgcdlmeaaGreatDoorMeetB
namespace Go.Proofs.YtdedolkgcdlmeaaGreatDoor
open Go.RowKit Limbs

theorem VecN.drop {W : World} {b off cap : Nat} {us : List Int} {nv n m : Nat} (h : VecN W (.slice (some ⟨b, off, none⟩) us.length cap) us nv) (hn : n + m = us.length) (hm : 0 < m) : VecN W (.slice (some ⟨b, off + n * 2, none⟩) m (cap - n)) (us.drop n) nv := by
  have hc : us.length ≤ cap := by
    obtain ⟨_, _, e, h1, -⟩ := h
    simp only [Value.slice.injEq, true_and] at e
    rw [e.2]; exact h1
  have hl : (us.drop n).length = m := by rw [List.length_drop]; omega
  refine ⟨_, _, by rw [hl], by rw [hl]; omega, fun _ => ⟨b, off + n * 2, rfl, (h.at 0 (by omega)).1, fun i hi => ?_⟩⟩
  rw [hl] at hi
  obtain ⟨-, neg, o, l, c, h1, h2, h3⟩ := h.at (n + i) (by omega)
  refine ⟨neg, o, l, c, ?_, ?_, ?_⟩
  · rw [show off + n * 2 + i * 2 = off + (n + i) * 2 by omega]; exact h1
  · rw [show off + n * 2 + i * 2 + 1 = off + (n + i) * 2 + 1 by omega]; exact h2
  · rw [getD_drop']; exact h3

theorem behindL_succ (n : Nat) (ts : List (List Int)) (k : Nat) (hk : k < ts.length) : behindL n (ts.take (k + 1)) = behindL n (ts.take k) ++ (if (n : Int) ≤ first ts[k] then [ts[k].drop n] else []) := by
  unfold behindL
  rw [List.take_succ_eq_append_getElem hk, List.filter_append, List.map_append]
  by_cases h : (n : Int) ≤ first ts[k]
  · rw [if_pos h, List.filter_cons_of_pos (by simpa using h)]; rfl
  · rw [if_neg h, List.filter_cons_of_neg (by simpa using h)]; rfl

theorem behindL_short (n : Nat) (ts : List (List Int)) (k : Nat) : (behindL n (ts.take k)).length ≤ k := by
  unfold behindL
  rw [List.length_map]
  exact Nat.le_trans (List.length_filter_le _ _) (by rw [List.length_take]; omega)

end Go.Proofs.YtdedolkgcdlmeaaGreatDoor
