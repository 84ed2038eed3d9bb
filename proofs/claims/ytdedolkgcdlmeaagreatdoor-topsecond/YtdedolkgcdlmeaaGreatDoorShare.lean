/- How much of each row in the one form a vector is. -/
import Derived.Test.YtdedolkgcdlmeaaGreatDoorOnes
namespace Go.Proofs.YtdedolkgcdlmeaaGreatDoor
open Go.RowKit Limbs

/-- What is left once rows are taken off, one by one. -/
def leftN (H : Nat → Nat → Int) (p : Nat → Nat) (v : Nat → Int) : Nat → Nat → Int
  | 0 => v
  | i + 1 => fun b => leftN H p v i b - leftN H p v i (p i) / H i (p i) * H i b

/-- How often a row is taken off. -/
def oftenN (H : Nat → Nat → Int) (p : Nat → Nat) (v : Nat → Int) (i : Nat) : Int := leftN H p v i (p i) / H i (p i)

/-- What was taken off and what is left are the whole. -/
theorem left_sum (H : Nat → Nat → Int) (p : Nat → Nat) (v : Nat → Int) (b : Nat) : ∀ i, v b = leftN H p v i b + sumN i (fun k => oftenN H p v k * H k b)
  | 0 => by simp [leftN, sumN]
  | i + 1 => by
    have h := left_sum H p v b i
    have e : leftN H p v (i + 1) b = leftN H p v i b - oftenN H p v i * H i b := rfl
    have e2 : sumN (i + 1) (fun k => oftenN H p v k * H k b) = sumN i (fun k => oftenN H p v k * H k b) + oftenN H p v i * H i b := rfl
    rw [e, e2]
    omega

/-- Of what lies there, just so much is taken off as there is of each row. -/
theorem left_in {r n : Nat} {H : Nat → Nat → Int} {p : Nat → Nat} (F : Form r n H p) {v d : Nat → Int} (hv : ∀ b, b < n → v b = sumN r (fun k => d k * H k b)) : ∀ i, i ≤ r → (∀ k, k < i → oftenN H p v k = d k) ∧ ∀ b, b < n → leftN H p v i b = sumN r (fun k => (if k < i then 0 else d k) * H k b)
  | 0, _ => ⟨fun k hk => absurd hk (by omega), fun b hb => by
    rw [show leftN H p v 0 b = v b from rfl, hv b hb]
    exact sumN_congr fun k _ => by rw [if_neg (by omega)]⟩
  | i + 1, hi => by
    obtain ⟨h1, h2⟩ := left_in F hv i (by omega)
    have hp := F.lt i (by omega)
    have hat : leftN H p v i (p i) = d i * H i (p i) := by
      rw [h2 _ hp]
      have := F.at_pivot (fun k => if k < i then 0 else d k) i (by omega) (fun k hk => if_pos hk)
      rw [this, if_neg (by omega)]
    have hof : oftenN H p v i = d i := by
      unfold oftenN
      rw [hat, Int.mul_ediv_cancel _ (by have := F.pos i (by omega); omega)]
    refine ⟨fun k hk => ?_, fun b hb => ?_⟩
    · by_cases hki : k = i
      · rw [hki]; exact hof
      · exact h1 k (by omega)
    · have e : leftN H p v (i + 1) b = leftN H p v i b - oftenN H p v i * H i b := rfl
      rw [e, h2 b hb, hof]
      have e1 : sumN r (fun k => (if k < i then 0 else d k) * H k b) = sumN r (fun k => (if k < i + 1 then 0 else d k) * H k b) + sumN r (fun k => (if k = i then d k else 0) * H k b) := by
        rw [← sumN_add]
        refine sumN_congr fun k _ => ?_
        by_cases h3 : k < i
        · rw [if_pos h3, if_pos (by omega), if_neg (by omega)]; simp
        · by_cases h4 : k = i
          · rw [if_neg h3, if_pos (by omega), if_pos h4]; simp
          · rw [if_neg h3, if_neg (by omega), if_neg h4]; simp
      have e2 : sumN r (fun k => (if k = i then d k else 0) * H k b) = d i * H i b := by
        rw [sumN_single r i (by omega) _ (fun k _ hk => by rw [if_neg hk, Int.zero_mul]), if_pos rfl]
      rw [e1, e2]
      omega

/-- A vector lies there just if nothing is ever left over. -/
theorem lat_iff {r n : Nat} {H : Nat → Nat → Int} {p : Nat → Nat} (F : Form r n H p) (v : Nat → Int) : Lat r n H v ↔ (∀ i, i < r → leftN H p v i (p i) % H i (p i) = 0) ∧ ∀ b, b < n → leftN H p v r b = 0 := by
  constructor
  · rintro ⟨d, hv⟩
    refine ⟨fun i hi => ?_, fun b hb => ?_⟩
    · rw [(left_in F hv i (by omega)).2 _ (F.lt i hi), F.at_pivot (fun k => if k < i then 0 else d k) i hi (fun k hk => if_pos hk)]
      exact Int.mul_emod_left _ _
    · rw [(left_in F hv r (Nat.le_refl _)).2 b hb]
      exact (sumN_congr (g := fun _ => 0) fun k hk => by rw [if_pos hk, Int.zero_mul]).trans (sumN_zero r)
  · rintro ⟨-, h⟩
    exact ⟨oftenN H p v, fun b hb => by rw [left_sum H p v b r, h b hb, Int.zero_add]⟩

/-- How much of each row there is, is one. -/
theorem often_one {r n : Nat} {H : Nat → Nat → Int} {p : Nat → Nat} (F : Form r n H p) {v d : Nat → Int} (hv : ∀ b, b < n → v b = sumN r (fun k => d k * H k b)) : ∀ k, k < r → oftenN H p v k = d k :=
  (left_in F hv r (Nat.le_refl _)).1

end Go.Proofs.YtdedolkgcdlmeaaGreatDoor
