/- Sylvester: bordered determinants, two rows and two places further. No Go in it. -/
import Derived.Test.YtdedolkgcdlmeaaGreatDoorSmT
namespace Go.Proofs.YtdedolkgcdlmeaaGreatDoor
open Go.RowKit Limbs

/-- What undoes the first k rows and places, but for their determinant. -/
def adjM (k : Nat) (A : Nat → Nat → Int) : Nat → Nat → Int := fun j i => det k (setRow A i (unitR j))

theorem adj_mul (k : Nat) (A : Nat → Nat → Int) (l i : Nat) (hl : l < k) (hi : i < k) : sumN k (fun j => A l j * adjM k A j i) = if l = i then det k A else 0 := by
  have e1 : sumN k (fun j => A l j * adjM k A j i) = det k (setRow A i (fun b => sumN k (fun j => A l j * unitR j b))) := (det_row_sum k A i hi k (fun j => A l j) unitR).symm
  have e2 : det k (setRow A i (fun b => sumN k (fun j => A l j * unitR j b))) = det k (setRow A i (A l)) := det_congr fun a b _ hb => by
    unfold setRow
    split
    · exact sum_unit k (A l) b hb
    · rfl
  rw [e1, e2]
  by_cases h : l = i
  · rw [if_pos h, h, setRow_self]
  · rw [if_neg h]
    rcases Nat.lt_or_gt_of_ne h with hlt | hlt
    · exact det_alt k _ l i hlt hi fun b => by rw [setRow_at, setRow_ne A i (A l) h]
    · exact det_alt k _ i l hlt hl fun b => by rw [setRow_at, setRow_ne A i (A l) h]

/-- A number cleared of what the first k rows make of it. -/
def clr (k : Nat) (M : Nat → Nat → Int) (p r : Nat) : Int := M p r * det k M - sumN k (fun l => M p l * sumN k (fun j => adjM k M l j * M j r))

theorem clr_low (k : Nat) (M : Nat → Nat → Int) (p r : Nat) (hp : p < k) : clr k M p r = 0 := by
  have e1 : sumN k (fun l => M p l * sumN k (fun j => adjM k M l j * M j r)) = sumN k (fun j => sumN k (fun l => M p l * adjM k M l j) * M j r) := by
    have e2 : sumN k (fun l => M p l * sumN k (fun j => adjM k M l j * M j r)) = sumN k (fun l => sumN k (fun j => M p l * adjM k M l j * M j r)) := sumN_congr fun l _ => by
      rw [← sumN_mul]
      exact sumN_congr fun j _ => by rw [Int.mul_assoc]
    rw [e2, sumN_swap]
    exact sumN_congr fun j _ => by
      rw [Int.mul_comm (sumN _ _), ← sumN_mul]
      exact sumN_congr fun l _ => by rw [Int.mul_comm]
  unfold clr
  rw [e1, sumN_single k p hp _ fun j hj hne => by rw [adj_mul k M p j hp hj, if_neg (Ne.symm hne), Int.zero_mul], adj_mul k M p p hp hp, if_pos rfl, Int.mul_comm]
  omega

/-- The places behind the first k are cleared. -/
def clrV (k : Nat) (M : Nat → Nat → Int) : Nat → Nat → Int := fun a b => if b < k then (if a = b then 1 else 0) else if a < k then -(sumN k (fun j => adjM k M a j * M j b)) else if a = b then det k M else 0

theorem clrV_left (k m : Nat) (M : Nat → Nat → Int) (hm : k ≤ m) (a b : Nat) (hb : b < k) : mulM m M (clrV k M) a b = M a b := by
  show sumN m (fun l => M a l * clrV k M l b) = _
  rw [sumN_single m b (by omega) _ fun l _ hne => by unfold clrV; rw [if_pos hb, if_neg hne, Int.mul_zero]]
  unfold clrV
  rw [if_pos hb, if_pos rfl, Int.mul_one]

theorem clrV_sum (k : Nat) (M : Nat → Nat → Int) (a b : Nat) (hb : ¬ b < k) : sumN k (fun l => M a l * clrV k M l b) = - sumN k (fun l => M a l * sumN k (fun j => adjM k M l j * M j b)) := by
  rw [← sumN_neg]
  refine sumN_congr fun l hl => ?_
  unfold clrV
  rw [if_neg hb, if_pos hl, Int.mul_neg]

theorem clrV_one (k : Nat) (M : Nat → Nat → Int) (a : Nat) : mulM (k + 1) M (clrV k M) a k = clr k M a k := by
  show sumN k (fun l => M a l * clrV k M l k) + M a k * clrV k M k k = _
  rw [clrV_sum k M a k (Nat.lt_irrefl k)]
  unfold clr clrV
  rw [if_neg (Nat.lt_irrefl k), if_neg (Nat.lt_irrefl k), if_pos rfl]
  omega

theorem clrV_two (k : Nat) (M : Nat → Nat → Int) (a b : Nat) (hb : b = k ∨ b = k + 1) : mulM (k + 2) M (clrV k M) a b = clr k M a b := by
  show sumN k (fun l => M a l * clrV k M l b) + M a k * clrV k M k b + M a (k + 1) * clrV k M (k + 1) b = _
  rw [clrV_sum k M a b (by omega)]
  unfold clr clrV
  rcases hb with rfl | rfl
  · rw [if_neg (Nat.lt_irrefl b), if_neg (Nat.lt_irrefl b), if_pos rfl, if_neg (Nat.lt_irrefl b), if_neg (by omega), if_neg (by omega), Int.mul_zero]
    omega
  · rw [if_neg (by omega), if_neg (by omega), if_neg (by omega), if_neg (by omega), if_neg (by omega), if_pos rfl, Int.mul_zero]
    omega

theorem clrV_det (k : Nat) (M : Nat → Nat → Int) : det (k + 1) (clrV k M) = det k M ∧ det (k + 2) (clrV k M) = det k M * det k M := by
  have tri : ∀ a b, b < a → clrV k M a b = 0 := fun a b h => by
    unfold clrV
    by_cases hb : b < k
    · rw [if_pos hb, if_neg (by omega)]
    · rw [if_neg hb, if_neg (by omega), if_neg (by omega)]
  have one : ∀ q, q ≤ k → prodN q (fun i => clrV k M i i) = 1 := fun q => by
    induction q with
    | zero => exact fun _ => rfl
    | succ q ih =>
      intro hq
      rw [prodN, ih (by omega)]
      unfold clrV
      rw [if_pos (by omega), if_pos rfl]
      rfl
  have d1 : clrV k M k k = det k M := by unfold clrV; rw [if_neg (by omega), if_neg (by omega), if_pos rfl]
  have d2 : clrV k M (k + 1) (k + 1) = det k M := by unfold clrV; rw [if_neg (by omega), if_neg (by omega), if_pos rfl]
  refine ⟨?_, ?_⟩
  · rw [det_tri (k + 1) _ fun a b _ h => tri a b h, prodN, one k (Nat.le_refl k), d1, Int.one_mul]
  · rw [det_tri (k + 2) _ fun a b _ h => tri a b h, prodN, prodN, one k (Nat.le_refl k), d1, d2, Int.one_mul]

/-- One place of noughts above. -/
theorem det_low_one (k : Nat) (W : Nat → Nat → Int) (h : ∀ a, a < k → W a k = 0) : det (k + 1) W = W k k * det k W := by
  rw [det, sumN_single (k + 1) k (by omega) _ fun j hj hne => by
    have : det k (fun a b => W a (sk j b)) = 0 := det_col_zero k _ (k - 1) (by omega) fun a ha => by
      show W a (sk j (k - 1)) = 0
      rw [sk_ge (by omega), show k - 1 + 1 = k by omega]
      exact h a ha
    rw [this, Int.mul_zero]]
  have e : det k (fun a b => W a (sk k b)) = det k W := det_congr fun a b _ hb => by rw [sk_lt hb]
  have s : sgnN (k + k) = 1 := by unfold sgnN; rw [if_pos (by omega)]
  rw [e, s, Int.one_mul]

/-- Two places of noughts above. -/
theorem det_low_two (k : Nat) (W : Nat → Nat → Int) (h : ∀ a b, a < k → (b = k ∨ b = k + 1) → W a b = 0) : det (k + 2) W = (W k k * W (k + 1) (k + 1) - W k (k + 1) * W (k + 1) k) * det k W := by
  have minor : ∀ j, j < k → det (k + 1) (fun a b => W a (sk j b)) = 0 := fun j hj => by
    rw [det_low_one k _ fun a ha => by
      show W a (sk j k) = 0
      rw [sk_ge (by omega)]; exact h a (k + 1) ha (.inr rfl)]
    have : det k (fun a b => W a (sk j b)) = 0 := det_col_zero k _ (k - 1) (by omega) fun a ha => by
      show W a (sk j (k - 1)) = 0
      rw [sk_ge (by omega), show k - 1 + 1 = k by omega]
      exact h a k ha (.inl rfl)
    rw [this, Int.mul_zero]
  have m0 : det (k + 1) (fun a b => W a (sk k b)) = W k (k + 1) * det k W := by
    rw [det_low_one k _ fun a ha => by
      show W a (sk k k) = 0
      rw [sk_ge (by omega)]; exact h a (k + 1) ha (.inr rfl)]
    have e : det k (fun a b => W a (sk k b)) = det k W := det_congr fun a b _ hb => by rw [sk_lt hb]
    rw [e, sk_ge (by omega)]
  have m1 : det (k + 1) (fun a b => W a (sk (k + 1) b)) = W k k * det k W := by
    rw [det_low_one k _ fun a ha => by
      show W a (sk (k + 1) k) = 0
      rw [sk_lt (by omega)]; exact h a k ha (.inl rfl)]
    have e : det k (fun a b => W a (sk (k + 1) b)) = det k W := det_congr fun a b _ hb => by rw [sk_lt (by omega)]
    rw [e, sk_lt (by omega)]
  rw [det]
  show sumN k (fun j => sgnN (k + 1 + j) * W (k + 1) j * det (k + 1) (fun a b => W a (sk j b))) + sgnN (k + 1 + k) * W (k + 1) k * det (k + 1) (fun a b => W a (sk k b)) + sgnN (k + 1 + (k + 1)) * W (k + 1) (k + 1) * det (k + 1) (fun a b => W a (sk (k + 1) b)) = _
  have z : sumN k (fun j => sgnN (k + 1 + j) * W (k + 1) j * det (k + 1) (fun a b => W a (sk j b))) = 0 := (sumN_congr (g := fun _ => 0) fun j hj => by rw [minor j hj, Int.mul_zero]).trans (sumN_zero k)
  have s0 : sgnN (k + 1 + k) = -1 := by unfold sgnN; rw [if_neg (by omega)]
  have s1 : sgnN (k + 1 + (k + 1)) = 1 := by unfold sgnN; rw [if_pos (by omega)]
  rw [z, m0, m1, s0, s1, Int.one_mul, Int.sub_mul]
  have e1 : -1 * W (k + 1) k * (W k (k + 1) * det k W) = -(W k (k + 1) * W (k + 1) k * det k W) := by
    rw [Int.neg_mul, Int.one_mul, Int.neg_mul, ← Int.mul_assoc, Int.mul_comm (W (k + 1) k)]
  have e2 : W (k + 1) (k + 1) * (W k k * det k W) = W k k * W (k + 1) (k + 1) * det k W := by
    rw [← Int.mul_assoc, Int.mul_comm (W (k + 1) (k + 1))]
  rw [e1, e2]
  omega

/-- The first k, and one further. -/
def ix (k p a : Nat) : Nat := if a < k then a else p
/-- The first k, and two further. -/
def ix2 (k p q a : Nat) : Nat := if a < k then a else if a = k then p else q

def bord (k : Nat) (M : Nat → Nat → Int) (p r : Nat) : Int := det (k + 1) (fun a b => M (ix k p a) (ix k r b))
def bord2 (k : Nat) (M : Nat → Nat → Int) (p q r s : Nat) : Int := det (k + 2) (fun a b => M (ix2 k p q a) (ix2 k r s b))

/-- Cleared in rows and places that were chosen: the same. -/
theorem clr_ix (k : Nat) (M : Nat → Nat → Int) (f g : Nat → Nat) (hf : ∀ a, a < k → f a = a) (hg : ∀ a, a < k → g a = a) (p r : Nat) : clr k (fun a b => M (f a) (g b)) p r = clr k M (f p) (g r) := by
  have e0 : det k (fun a b => M (f a) (g b)) = det k M := det_congr fun a b ha hb => by rw [hf a ha, hg b hb]
  have e1 : ∀ l j, l < k → j < k → adjM k (fun a b => M (f a) (g b)) l j = adjM k M l j := fun l j _ hj => det_congr fun a b ha hb => by
    unfold setRow
    split
    · rfl
    · show M (f a) (g b) = M a b
      rw [hf a ha, hg b hb]
  unfold clr
  rw [e0]
  have e2 : sumN k (fun l => M (f p) (g l) * sumN k (fun j => adjM k (fun a b => M (f a) (g b)) l j * M (f j) (g r))) = sumN k (fun l => M (f p) l * sumN k (fun j => adjM k M l j * M j (g r))) := sumN_congr fun l hl => by
    rw [hg l hl]
    congr 1
    exact sumN_congr fun j hj => by rw [e1 l j hl hj, hf j hj]
  rw [e2]

theorem bord_clr {k : Nat} {M : Nat → Nat → Int} (h0 : det k M ≠ 0) (p r : Nat) : bord k M p r = clr k M p r := by
  have hix : ∀ q a, a < k → ix k q a = a := fun q a ha => if_pos ha
  have e0 : det k (fun a b => M (ix k p a) (ix k r b)) = det k M := det_congr fun a b ha hb => by rw [hix p a ha, hix r b hb]
  have d := det_mul (k + 1) (fun a b => M (ix k p a) (ix k r b)) (clrV k (fun a b => M (ix k p a) (ix k r b)))
  rw [(clrV_det k _).1, det_low_one k _ fun a ha => by rw [clrV_one, clr_low k _ a k ha], clrV_one, clr_ix k M (ix k p) (ix k r) (hix p) (hix r)] at d
  have e1 : det k (mulM (k + 1) (fun a b => M (ix k p a) (ix k r b)) (clrV k (fun a b => M (ix k p a) (ix k r b)))) = det k M := by
    rw [← e0]
    exact det_congr fun a b _ hb => clrV_left k (k + 1) _ (by omega) a b hb
  rw [e1, e0, show ix k p k = p from if_neg (by omega), show ix k r k = r from if_neg (by omega)] at d
  exact (Int.eq_of_mul_eq_mul_right h0 d).symm

/-- SYLVESTER. -/
theorem sylvester {k : Nat} {M : Nat → Nat → Int} (h0 : det k M ≠ 0) (p q r s : Nat) : bord2 k M p q r s * det k M = bord k M p r * bord k M q s - bord k M p s * bord k M q r := by
  have hix : ∀ q q' a, a < k → ix2 k q q' a = a := fun q q' a ha => if_pos ha
  have e0 : det k (fun a b => M (ix2 k p q a) (ix2 k r s b)) = det k M := det_congr fun a b ha hb => by rw [hix p q a ha, hix r s b hb]
  have d := det_mul (k + 2) (fun a b => M (ix2 k p q a) (ix2 k r s b)) (clrV k (fun a b => M (ix2 k p q a) (ix2 k r s b)))
  rw [(clrV_det k _).2, det_low_two k _ fun a b ha hb => by rw [clrV_two _ _ _ _ hb, clr_low k _ a b ha], clrV_two _ _ _ _ (.inl rfl), clrV_two _ _ _ _ (.inr rfl), clrV_two _ _ _ _ (.inr rfl), clrV_two _ _ _ _ (.inl rfl)] at d
  simp only [clr_ix k M (ix2 k p q) (ix2 k r s) (hix p q) (hix r s)] at d
  have e1 : det k (mulM (k + 2) (fun a b => M (ix2 k p q a) (ix2 k r s b)) (clrV k (fun a b => M (ix2 k p q a) (ix2 k r s b)))) = det k M := by
    rw [← e0]
    exact det_congr fun a b _ hb => clrV_left k (k + 2) _ (by omega) a b hb
  have i0 : ∀ x y, ix2 k x y k = x := fun x y => by unfold ix2; rw [if_neg (by omega), if_pos rfl]
  have i1 : ∀ x y, ix2 k x y (k + 1) = y := fun x y => by unfold ix2; rw [if_neg (by omega), if_neg (by omega)]
  rw [e1, e0, i0, i0, i1, i1] at d
  rw [bord_clr h0, bord_clr h0, bord_clr h0, bord_clr h0]
  rw [← Int.mul_assoc] at d
  exact (Int.eq_of_mul_eq_mul_right h0 d).symm

/-- Bareiss: one place further. -/
theorem bareiss {k : Nat} {M : Nat → Nat → Int} (h0 : det k M ≠ 0) (i j : Nat) : bord k M k k * bord k M i j - bord k M i k * bord k M k j = bord (k + 1) M i j * det k M := by
  have e : bord2 k M k i k j = bord (k + 1) M i j := det_congr fun a b _ _ => by
    have : ∀ x c, ix2 k k x c = ix (k + 1) x c := fun x c => by
      unfold ix2 ix
      by_cases h1 : c < k
      · rw [if_pos h1, if_pos (by omega)]
      · rw [if_neg h1]
        by_cases h2 : c = k
        · rw [if_pos h2, if_pos (by omega), h2]
        · rw [if_neg h2, if_neg (by omega)]
    rw [this, this]
  rw [← e, sylvester h0 k i k j, Int.mul_comm (bord k M i k)]

/-- The pivot is the determinant of the first ones. -/
theorem bord_self (k : Nat) (M : Nat → Nat → Int) : bord k M k k = det (k + 1) M := det_congr fun a b ha hb => by
  have : ∀ c, c < k + 1 → ix k k c = c := fun c hc => by
    unfold ix
    by_cases h : c < k
    · rw [if_pos h]
    · rw [if_neg h]; omega
  rw [this a ha, this b hb]

theorem bord_zero (M : Nat → Nat → Int) (i j : Nat) : bord 0 M i j = M i j := by
  unfold bord
  rw [det]
  show 0 + sgnN (0 + 0) * M (ix 0 i 0) (ix 0 j 0) * 1 = _
  have : sgnN (0 + 0) = 1 := rfl
  rw [this]
  show 0 + 1 * M i j * 1 = _
  omega

/-- A row that is nought where the pivot would be, and all behind it too: the whole is nought. -/
theorem bord_none {k n : Nat} {M : Nat → Nat → Int} (h0 : det k M ≠ 0) (hkn : k < n) (h : ∀ i, k ≤ i → i < n → bord k M i k = 0) : det n M = 0 := by
  -- the first k+1 places of all rows: each row times the determinant of the first ones is made of the first k rows there
  have hc : ∀ i, i < n → clr k M i k = 0 := fun i hi => by
    by_cases hk : i < k
    · exact clr_low k M i k hk
    · rw [← bord_clr h0]; exact h i (by omega) hi
  -- so place k, times that determinant, is made of the places ahead
  have hcol : ∀ i, i < n → M i k * det k M = sumN k (fun l => M i l * sumN k (fun j => adjM k M l j * M j k)) := fun i hi => by
    have := hc i hi
    unfold clr at this
    omega
  have d := det_mul n M (fun a b => if b = k then (if a = k then det k M else if a < k then -(sumN k (fun j => adjM k M a j * M j k)) else 0) else if a = b then 1 else 0)
  have z : det n (mulM n M (fun a b => if b = k then (if a = k then det k M else if a < k then -(sumN k (fun j => adjM k M a j * M j k)) else 0) else if a = b then 1 else 0)) = 0 := det_col_zero n _ k hkn fun a ha => by
    show sumN n (fun l => M a l * (if k = k then (if l = k then det k M else if l < k then -(sumN k (fun j => adjM k M l j * M j k)) else 0) else if l = k then 1 else 0)) = 0
    rw [show n = (k + 1) + (n - (k + 1)) by omega, sumN_cut (k + 1) _ _ fun l h1 _ => by rw [if_pos rfl, if_neg (by omega), if_neg (by omega), Int.mul_zero]]
    show sumN k (fun l => M a l * (if k = k then (if l = k then det k M else if l < k then -(sumN k (fun j => adjM k M l j * M j k)) else 0) else if l = k then 1 else 0)) + M a k * (if k = k then (if k = k then det k M else if k < k then -(sumN k (fun j => adjM k M k j * M j k)) else 0) else if k = k then 1 else 0) = 0
    have e : sumN k (fun l => M a l * (if k = k then (if l = k then det k M else if l < k then -(sumN k (fun j => adjM k M l j * M j k)) else 0) else if l = k then 1 else 0)) = - sumN k (fun l => M a l * sumN k (fun j => adjM k M l j * M j k)) := by
      rw [← sumN_neg]
      exact sumN_congr fun l hl => by rw [if_pos rfl, if_neg (by omega), if_pos hl, Int.mul_neg]
    rw [e, ← hcol a ha, if_pos rfl, if_pos rfl]
    omega
  have t : det n (fun a b => if b = k then (if a = k then det k M else if a < k then -(sumN k (fun j => adjM k M a j * M j k)) else 0) else if a = b then 1 else 0) = det k M := by
    rw [det_tri n _ fun a b _ hb => by
      by_cases e : b = k
      · rw [if_pos e, if_neg (by omega), if_neg (by omega)]
      · rw [if_neg e, if_neg (by omega)]]
    have one : ∀ q, prodN q (fun i => if i = k then (if i = k then det k M else if i < k then -(sumN k (fun j => adjM k M i j * M j k)) else 0) else if i = i then (1 : Int) else 0) = if k < q then det k M else 1 := fun q => by
      induction q with
      | zero => rfl
      | succ q ih =>
        rw [prodN, ih]
        by_cases e : q = k
        · rw [if_pos e, if_pos e, if_neg (by omega), if_pos (by omega), Int.one_mul]
        · rw [if_neg e, if_pos rfl, Int.mul_one]
          by_cases h2 : k < q
          · rw [if_pos h2, if_pos (by omega)]
          · rw [if_neg h2, if_neg (by omega)]
    rw [one n, if_pos hkn]
  rw [z, t] at d
  rcases Int.mul_eq_zero.1 d.symm with h | h
  · exact h
  · exact absurd h h0

end Go.Proofs.YtdedolkgcdlmeaaGreatDoor
