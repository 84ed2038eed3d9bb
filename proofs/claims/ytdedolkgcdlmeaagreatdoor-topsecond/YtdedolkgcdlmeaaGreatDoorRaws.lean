/- Small facts: the order -1, 0, 1; structs' cells in a row. -/
import Derived.Test.YtdedolkgcdlmeaaGreatDoorFit
namespace Go.Proofs.YtdedolkgcdlmeaaGreatDoor
open Go.RowKit Limbs

theorem cmpI_anti (a b : Int) : cmpI b a = -cmpI a b := by
  unfold cmpI
  repeat' split
  all_goals omega
theorem cmpI_add (a b c : Int) : cmpI (a + c) (b + c) = cmpI a b := by
  unfold cmpI
  repeat' split
  all_goals omega
theorem cmpI_trans (a b c : Int) (h1 : cmpI a b ≤ 0) (h2 : cmpI b c ≤ 0) : cmpI a c ≤ 0 := by
  unfold cmpI at *
  repeat' split at h1
  all_goals repeat' split at h2
  all_goals repeat' split
  all_goals omega
theorem cmpI_mul (a b c : Int) (h : 0 < c) : cmpI (a * c) (b * c) = cmpI a b := by
  by_cases h1 : a < b
  · rw [cmpI_lt h1, cmpI_lt (Int.mul_lt_mul_of_pos_right h1 h)]
  · by_cases h2 : b < a
    · rw [cmpI_gt h2, cmpI_gt (Int.mul_lt_mul_of_pos_right h2 h)]
    · obtain rfl : a = b := by omega
      rw [cmpI_eq rfl, cmpI_eq rfl]

end Go.Proofs.YtdedolkgcdlmeaaGreatDoor
