/- Small facts: the order -1, 0, 1; structs' cells in a row. -/
import Derived.Test.YtklhmnejmbgmjacDoorFit
namespace Go.Proofs.YtklhmnejmbgmjacDoor
open Go.RowKit Limbs

theorem cmpI_bd (a b : Int) : -1 ≤ cmpI a b ∧ cmpI a b ≤ 1 := by unfold cmpI; split; decide; split <;> decide

theorem cmpI_anti (a b : Int) : cmpI b a = -cmpI a b := by
  unfold cmpI
  repeat' split
  all_goals omega
theorem cmpI_add (a b c : Int) : cmpI (a + c) (b + c) = cmpI a b := by
  unfold cmpI
  repeat' split
  all_goals omega
theorem cmpI_trans (a b c : Int) (h1 : cmpI a b ≤ 0) (h2 : cmpI b c ≤ 0) : cmpI a c ≤ 0 := by
  unfold cmpI at *
  repeat' split at h1
  all_goals repeat' split at h2
  all_goals repeat' split
  all_goals omega
theorem cmpI_mul (a b c : Int) (h : 0 < c) : cmpI (a * c) (b * c) = cmpI a b := by
  by_cases h1 : a < b
  · rw [cmpI_lt h1, cmpI_lt (Int.mul_lt_mul_of_pos_right h1 h)]
  · by_cases h2 : b < a
    · rw [cmpI_gt h2, cmpI_gt (Int.mul_lt_mul_of_pos_right h2 h)]
    · obtain rfl : a = b := by omega
      rw [cmpI_eq rfl, cmpI_eq rfl]

/-- Three structs' cells in a row. -/
theorem raws3 (W : World) (n1 n2 n3 : Bool) (s1 s2 s3 : Value) (z1 z2 z3 : List Int) (t : TypeId) (h1 : Lim W s1 z1) (h2 : Lim W s2 z2) (h3 : Lim W s3 z3) :
    Raws (W.alloc (.cells #[.bool n1, s1, .bool n2, s2, .bool n3, s3] t)) W.heap.size [⟨n1, s1, z1⟩, ⟨n2, s2, z2⟩, ⟨n3, s3, z3⟩] := by
  have hb : ∀ {s z}, Lim W s z → Lim (W.alloc (.cells #[.bool n1, s1, .bool n2, s2, .bool n3, s3] t)) s z := fun h => h.below ((Below.refl _ _).alloc (Nat.le_refl _) _) (Nat.le_refl _)
  refine ⟨by simp, fun i r hi => ?_⟩
  match i, hi with
  | 0, hi => simp at hi; subst hi; exact ⟨by simp, by simp, hb h1⟩
  | 1, hi => simp at hi; subst hi; exact ⟨by simp, by simp, hb h2⟩
  | 2, hi => simp at hi; subst hi; exact ⟨by simp, by simp, hb h3⟩

end Go.Proofs.YtklhmnejmbgmjacDoor
