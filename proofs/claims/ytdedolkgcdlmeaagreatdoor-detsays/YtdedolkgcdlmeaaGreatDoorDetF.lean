/- Sylvester: bordered determinants, two rows and two places further. No Go in it. -/
import Derived.Test.YtdedolkgcdlmeaaGreatDoorSmT

namespace Go.Proofs.YtdedolkgcdlmeaaGreatDoor
open Go.RowKit Limbs

/-- What undoes the first k rows and places, but for their determinant. -/
def adjM (k : Nat) (A : Nat → Nat → Int) : Nat → Nat → Int := fun j i => det k (setRow A i (unitR j))

theorem adj_mul (k : Nat) (A : Nat → Nat → Int) (l i : Nat) (hl : l < k) (hi : i < k) : sumN k (fun j => A l j * adjM k A j i) = if l = i then det k A else 0 := by
  have e1 : sumN k (fun j => A l j * adjM k A j i) = det k (setRow A i (fun b => sumN k (fun j => A l j * unitR j b))) := (det_row_sum k A i hi k (fun j => A l j) unitR).symm
  have e2 : det k (setRow A i (fun b => sumN k (fun j => A l j * unitR j b))) = det k (setRow A i (A l)) := det_congr fun a b _ hb => by
    unfold setRow
    split
    · exact sum_unit k (A l) b hb
    · rfl
  rw [e1, e2]
  by_cases h : l = i
  · rw [if_pos h, h, setRow_self]
  · rw [if_neg h]
    rcases Nat.lt_or_gt_of_ne h with hlt | hlt
    · exact det_alt k _ l i hlt hi fun b => by rw [setRow_at, setRow_ne A i (A l) h]
    · exact det_alt k _ i l hlt hl fun b => by rw [setRow_at, setRow_ne A i (A l) h]

/-- A number cleared of what the first k rows make of it. -/
def clr (k : Nat) (M : Nat → Nat → Int) (p r : Nat) : Int := M p r * det k M - sumN k (fun l => M p l * sumN k (fun j => adjM k M l j * M j r))

theorem clr_low (k : Nat) (M : Nat → Nat → Int) (p r : Nat) (hp : p < k) : clr k M p r = 0 := by
  have e1 : sumN k (fun l => M p l * sumN k (fun j => adjM k M l j * M j r)) = sumN k (fun j => sumN k (fun l => M p l * adjM k M l j) * M j r) := by
    have e2 : sumN k (fun l => M p l * sumN k (fun j => adjM k M l j * M j r)) = sumN k (fun l => sumN k (fun j => M p l * adjM k M l j * M j r)) := sumN_congr fun l _ => by
      rw [← sumN_mul]
      exact sumN_congr fun j _ => by rw [Int.mul_assoc]
    rw [e2, sumN_swap]
    exact sumN_congr fun j _ => by
      rw [Int.mul_comm (sumN _ _), ← sumN_mul]
      exact sumN_congr fun l _ => by rw [Int.mul_comm]
  unfold clr
  rw [e1, sumN_single k p hp _ fun j hj hne => by rw [adj_mul k M p j hp hj, if_neg (Ne.symm hne), Int.zero_mul], adj_mul k M p p hp hp, if_pos rfl, Int.mul_comm]
  omega

/-- The places behind the first k are cleared. -/
def clrV (k : Nat) (M : Nat → Nat → Int) : Nat → Nat → Int := fun a b => if b < k then (if a = b then 1 else 0) else if a < k then -(sumN k (fun j => adjM k M a j * M j b)) else if a = b then det k M else 0

theorem clrV_left (k m : Nat) (M : Nat → Nat → Int) (hm : k ≤ m) (a b : Nat) (hb : b < k) : mulM m M (clrV k M) a b = M a b := by
  show sumN m (fun l => M a l * clrV k M l b) = _
  rw [sumN_single m b (by omega) _ fun l _ hne => by unfold clrV; rw [if_pos hb, if_neg hne, Int.mul_zero]]
  unfold clrV
  rw [if_pos hb, if_pos rfl, Int.mul_one]

theorem clrV_sum (k : Nat) (M : Nat → Nat → Int) (a b : Nat) (hb : ¬ b < k) : sumN k (fun l => M a l * clrV k M l b) = - sumN k (fun l => M a l * sumN k (fun j => adjM k M l j * M j b)) := by
  rw [← sumN_neg]
  refine sumN_congr fun l hl => ?_
  unfold clrV
  rw [if_neg hb, if_pos hl, Int.mul_neg]

theorem clrV_one (k : Nat) (M : Nat → Nat → Int) (a : Nat) : mulM (k + 1) M (clrV k M) a k = clr k M a k := by
  show sumN k (fun l => M a l * clrV k M l k) + M a k * clrV k M k k = _
  rw [clrV_sum k M a k (Nat.lt_irrefl k)]
  unfold clr clrV
  rw [if_neg (Nat.lt_irrefl k), if_neg (Nat.lt_irrefl k), if_pos rfl]
  omega

theorem clrV_two (k : Nat) (M : Nat → Nat → Int) (a b : Nat) (hb : b = k ∨ b = k + 1) : mulM (k + 2) M (clrV k M) a b = clr k M a b := by
  show sumN k (fun l => M a l * clrV k M l b) + M a k * clrV k M k b + M a (k + 1) * clrV k M (k + 1) b = _
  rw [clrV_sum k M a b (by omega)]
  unfold clr clrV
  rcases hb with rfl | rfl
  · rw [if_neg (Nat.lt_irrefl b), if_neg (Nat.lt_irrefl b), if_pos rfl, if_neg (Nat.lt_irrefl b), if_neg (by omega), if_neg (by omega), Int.mul_zero]
    omega
  · rw [if_neg (by omega), if_neg (by omega), if_neg (by omega), if_neg (by omega), if_neg (by omega), if_pos rfl, Int.mul_zero]
    omega

theorem clrV_det (k : Nat) (M : Nat → Nat → Int) : det (k + 1) (clrV k M) = det k M ∧ det (k + 2) (clrV k M) = det k M * det k M := by
  have tri : ∀ a b, b < a → clrV k M a b = 0 := fun a b h => by
    unfold clrV
    by_cases hb : b < k
    · rw [if_pos hb, if_neg (by omega)]
    · rw [if_neg hb, if_neg (by omega), if_neg (by omega)]
  have one : ∀ q, q ≤ k → prodN q (fun i => clrV k M i i) = 1 := fun q => by
    induction q with
    | zero => exact fun _ => rfl
    | succ q ih =>
      intro hq
      rw [prodN, ih (by omega)]
      unfold clrV
      rw [if_pos (by omega), if_pos rfl]
      rfl
  have d1 : clrV k M k k = det k M := by unfold clrV; rw [if_neg (by omega), if_neg (by omega), if_pos rfl]
  have d2 : clrV k M (k + 1) (k + 1) = det k M := by unfold clrV; rw [if_neg (by omega), if_neg (by omega), if_pos rfl]
  refine ⟨?_, ?_⟩
  · rw [det_tri (k + 1) _ fun a b _ h => tri a b h, prodN, one k (Nat.le_refl k), d1, Int.one_mul]
  · rw [det_tri (k + 2) _ fun a b _ h => tri a b h, prodN, prodN, one k (Nat.le_refl k), d1, d2, Int.one_mul]

/-- One place of noughts above. -/
theorem det_low_one (k : Nat) (W : Nat → Nat → Int) (h : ∀ a, a < k → W a k = 0) : det (k + 1) W = W k k * det k W := by
  rw [det, sumN_single (k + 1) k (by omega) _ fun j hj hne => by
    have : det k (fun a b => W a (sk j b)) = 0 := det_col_zero k _ (k - 1) (by omega) fun a ha => by
      show W a (sk j (k - 1)) = 0
      rw [sk_ge (by omega), show k - 1 + 1 = k by omega]
      exact h a ha
    rw [this, Int.mul_zero]]
  have e : det k (fun a b => W a (sk k b)) = det k W := det_congr fun a b _ hb => by rw [sk_lt hb]
  have s : sgnN (k + k) = 1 := by unfold sgnN; rw [if_pos (by omega)]
  rw [e, s, Int.one_mul]

/-- Two places of noughts above. -/
theorem det_low_two (k : Nat) (W : Nat → Nat → Int) (h : ∀ a b, a < k → (b = k ∨ b = k + 1) → W a b = 0) : det (k + 2) W = (W k k * W (k + 1) (k + 1) - W k (k + 1) * W (k + 1) k) * det k W := by
  have minor : ∀ j, j < k → det (k + 1) (fun a b => W a (sk j b)) = 0 := fun j hj => by
    rw [det_low_one k _ fun a ha => by
      show W a (sk j k) = 0
      rw [sk_ge (by omega)]; exact h a (k + 1) ha (.inr rfl)]
    have : det k (fun a b => W a (sk j b)) = 0 := det_col_zero k _ (k - 1) (by omega) fun a ha => by
      show W a (sk j (k - 1)) = 0
      rw [sk_ge (by omega), show k - 1 + 1 = k by omega]
      exact h a k ha (.inl rfl)
    rw [this, Int.mul_zero]
  have m0 : det (k + 1) (fun a b => W a (sk k b)) = W k (k + 1) * det k W := by
    rw [det_low_one k _ fun a ha => by
      show W a (sk k k) = 0
      rw [sk_ge (by omega)]; exact h a (k + 1) ha (.inr rfl)]
    have e : det k (fun a b => W a (sk k b)) = det k W := det_congr fun a b _ hb => by rw [sk_lt hb]
    rw [e, sk_ge (by omega)]
  have m1 : det (k + 1) (fun a b => W a (sk (k + 1) b)) = W k k * det k W := by
    rw [det_low_one k _ fun a ha => by
      show W a (sk (k + 1) k) = 0
      rw [sk_lt (by omega)]; exact h a k ha (.inl rfl)]
    have e : det k (fun a b => W a (sk (k + 1) b)) = det k W := det_congr fun a b _ hb => by rw [sk_lt (by omega)]
    rw [e, sk_lt (by omega)]
  rw [det]
  show sumN k (fun j => sgnN (k + 1 + j) * W (k + 1) j * det (k + 1) (fun a b => W a (sk j b))) + sgnN (k + 1 + k) * W (k + 1) k * det (k + 1) (fun a b => W a (sk k b)) + sgnN (k + 1 + (k + 1)) * W (k + 1) (k + 1) * det (k + 1) (fun a b => W a (sk (k + 1) b)) = _
  have z : sumN k (fun j => sgnN (k + 1 + j) * W (k + 1) j * det (k + 1) (fun a b => W a (sk j b))) = 0 := (sumN_congr (g := fun _ => 0) fun j hj => by rw [minor j hj, Int.mul_zero]).trans (sumN_zero k)
  have s0 : sgnN (k + 1 + k) = -1 := by unfold sgnN; rw [if_neg (by omega)]
  have s1 : sgnN (k + 1 + (k + 1)) = 1 := by unfold sgnN; rw [if_pos (by omega)]
  rw [z, m0, m1, s0, s1, Int.one_mul, Int.sub_mul]
  have e1 : -1 * W (k + 1) k * (W k (k + 1) * det k W) = -(W k (k + 1) * W (k + 1) k * det k W) := by
    rw [Int.neg_mul, Int.one_mul, Int.neg_mul, ← Int.mul_assoc, Int.mul_comm (W (k + 1) k)]
  have e2 : W (k + 1) (k + 1) * (W k k * det k W) = W k k * W (k + 1) (k + 1) * det k W := by
    rw [← Int.mul_assoc, Int.mul_comm (W (k + 1) (k + 1))]
  rw [e1, e2]
  omega

/-- The first k, and one further. -/
def ix (k p a : Nat) : Nat := if a < k then a else p
/-- The first k, and two further. -/
def ix2 (k p q a : Nat) : Nat := if a < k then a else if a = k then p else q

def bord (k : Nat) (M : Nat → Nat → Int) (p r : Nat) : Int := det (k + 1) (fun a b => M (ix k p a) (ix k r b))
def bord2 (k : Nat) (M : Nat → Nat → Int) (p q r s : Nat) : Int := det (k + 2) (fun a b => M (ix2 k p q a) (ix2 k r s b))

/-- Cleared in rows and places that were chosen: the same. -/
theorem clr_ix (k : Nat) (M : Nat → Nat → Int) (f g : Nat → Nat) (hf : ∀ a, a < k → f a = a) (hg : ∀ a, a < k → g a = a) (p r : Nat) : clr k (fun a b => M (f a) (g b)) p r = clr k M (f p) (g r) := by
  have e0 : det k (fun a b => M (f a) (g b)) = det k M := det_congr fun a b ha hb => by rw [hf a ha, hg b hb]
  have e1 : ∀ l j, l < k → j < k → adjM k (fun a b => M (f a) (g b)) l j = adjM k M l j := fun l j _ hj => det_congr fun a b ha hb => by
    unfold setRow
    split
    · rfl
    · show M (f a) (g b) = M a b
      rw [hf a ha, hg b hb]
  unfold clr
  rw [e0]
  have e2 : sumN k (fun l => M (f p) (g l) * sumN k (fun j => adjM k (fun a b => M (f a) (g b)) l j * M (f j) (g r))) = sumN k (fun l => M (f p) l * sumN k (fun j => adjM k M l j * M j (g r))) := sumN_congr fun l hl => by
    rw [hg l hl]
    congr 1
    exact sumN_congr fun j hj => by rw [e1 l j hl hj, hf j hj]
  rw [e2]

theorem bord_clr {k : Nat} {M : Nat → Nat → Int} (h0 : det k M ≠ 0) (p r : Nat) : bord k M p r = clr k M p r := by
  have hix : ∀ q a, a < k → ix k q a = a := fun q a ha => if_pos ha
  have e0 : det k (fun a b => M (ix k p a) (ix k r b)) = det k M := det_congr fun a b ha hb => by rw [hix p a ha, hix r b hb]
  have d := det_mul (k + 1) (fun a b => M (ix k p a) (ix k r b)) (clrV k (fun a b => M (ix k p a) (ix k r b)))
  rw [(clrV_det k _).1, det_low_one k _ fun a ha => by rw [clrV_one, clr_low k _ a k ha], clrV_one, clr_ix k M (ix k p) (ix k r) (hix p) (hix r)] at d
  have e1 : det k (mulM (k + 1) (fun a b => M (ix k p a) (ix k r b)) (clrV k (fun a b => M (ix k p a) (ix k r b)))) = det k M := by
    rw [← e0]
    exact det_congr fun a b _ hb => clrV_left k (k + 1) _ (by omega) a b hb
  rw [e1, e0, show ix k p k = p from if_neg (by omega), show ix k r k = r from if_neg (by omega)] at d
  exact (Int.eq_of_mul_eq_mul_right h0 d).symm

/-- SYLVESTER. -/
theorem sylvester {k : Nat} {M : Nat → Nat → Int} (h0 : det k M ≠ 0) (p q r s : Nat) : bord2 k M p q r s * det k M = bord k M p r * bord k M q s - bord k M p s * bord k M q r := by
  have hix : ∀ q q' a, a < k → ix2 k q q' a = a := fun q q' a ha => if_pos ha
  have e0 : det k (fun a b => M (ix2 k p q a) (ix2 k r s b)) = det k M := det_congr fun a b ha hb => by rw [hix p q a ha, hix r s b hb]
  have d := det_mul (k + 2) (fun a b => M (ix2 k p q a) (ix2 k r s b)) (clrV k (fun a b => M (ix2 k p q a) (ix2 k r s b)))
  rw [(clrV_det k _).2, det_low_two k _ fun a b ha hb => by rw [clrV_two _ _ _ _ hb, clr_low k _ a b ha], clrV_two _ _ _ _ (.inl rfl), clrV_two _ _ _ _ (.inr rfl), clrV_two _ _ _ _ (.inr rfl), clrV_two _ _ _ _ (.inl rfl)] at d
  simp only [clr_ix k M (ix2 k p q) (ix2 k r s) (hix p q) (hix r s)] at d
  have e1 : det k (mulM (k + 2) (fun a b => M (ix2 k p q a) (ix2 k r s b)) (clrV k (fun a b => M (ix2 k p q a) (ix2 k r s b)))) = det k M := by
    rw [← e0]
    exact det_congr fun a b _ hb => clrV_left k (k + 2) _ (by omega) a b hb
  have i0 : ∀ x y, ix2 k x y k = x := fun x y => by unfold ix2; rw [if_neg (by omega), if_pos rfl]
  have i1 : ∀ x y, ix2 k x y (k + 1) = y := fun x y => by unfold ix2; rw [if_neg (by omega), if_neg (by omega)]
  rw [e1, e0, i0, i0, i1, i1] at d
  rw [bord_clr h0, bord_clr h0, bord_clr h0, bord_clr h0]
  rw [← Int.mul_assoc] at d
  exact (Int.eq_of_mul_eq_mul_right h0 d).symm

/-- Bareiss: one place further. -/
theorem bareiss {k : Nat} {M : Nat → Nat → Int} (h0 : det k M ≠ 0) (i j : Nat) : bord k M k k * bord k M i j - bord k M i k * bord k M k j = bord (k + 1) M i j * det k M := by
  have e : bord2 k M k i k j = bord (k + 1) M i j := det_congr fun a b _ _ => by
    have : ∀ x c, ix2 k k x c = ix (k + 1) x c := fun x c => by
      unfold ix2 ix
      by_cases h1 : c < k
      · rw [if_pos h1, if_pos (by omega)]
      · rw [if_neg h1]
        by_cases h2 : c = k
        · rw [if_pos h2, if_pos (by omega), h2]
        · rw [if_neg h2, if_neg (by omega)]
    rw [this, this]
  rw [← e, sylvester h0 k i k j, Int.mul_comm (bord k M i k)]

/-- The pivot is the determinant of the first ones. -/
theorem bord_self (k : Nat) (M : Nat → Nat → Int) : bord k M k k = det (k + 1) M := det_congr fun a b ha hb => by
  have : ∀ c, c < k + 1 → ix k k c = c := fun c hc => by
    unfold ix
    by_cases h : c < k
    · rw [if_pos h]
    · rw [if_neg h]; omega
  rw [this a ha, this b hb]

theorem bord_zero (M : Nat → Nat → Int) (i j : Nat) : bord 0 M i j = M i j := by
  unfold bord
  rw [det]
  show 0 + sgnN (0 + 0) * M (ix 0 i 0) (ix 0 j 0) * 1 = _
  have : sgnN (0 + 0) = 1 := rfl
  rw [this]
  show 0 + 1 * M i j * 1 = _
  omega

/-- A row that is nought where the pivot would be, and all behind it too: the whole is nought. -/
theorem bord_none {k n : Nat} {M : Nat → Nat → Int} (h0 : det k M ≠ 0) (hkn : k < n) (h : ∀ i, k ≤ i → i < n → bord k M i k = 0) : det n M = 0 := by
  -- the first k+1 places of all rows: each row times the determinant of the first ones is made of the first k rows there
  have hc : ∀ i, i < n → clr k M i k = 0 := fun i hi => by
    by_cases hk : i < k
    · exact clr_low k M i k hk
    · rw [← bord_clr h0]; exact h i (by omega) hi
  -- so place k, times that determinant, is made of the places ahead
  have hcol : ∀ i, i < n → M i k * det k M = sumN k (fun l => M i l * sumN k (fun j => adjM k M l j * M j k)) := fun i hi => by
    have := hc i hi
    unfold clr at this
    omega
  have d := det_mul n M (fun a b => if b = k then (if a = k then det k M else if a < k then -(sumN k (fun j => adjM k M a j * M j k)) else 0) else if a = b then 1 else 0)
  have z : det n (mulM n M (fun a b => if b = k then (if a = k then det k M else if a < k then -(sumN k (fun j => adjM k M a j * M j k)) else 0) else if a = b then 1 else 0)) = 0 := det_col_zero n _ k hkn fun a ha => by
    show sumN n (fun l => M a l * (if k = k then (if l = k then det k M else if l < k then -(sumN k (fun j => adjM k M l j * M j k)) else 0) else if l = k then 1 else 0)) = 0
    rw [show n = (k + 1) + (n - (k + 1)) by omega, sumN_cut (k + 1) _ _ fun l h1 _ => by rw [if_pos rfl, if_neg (by omega), if_neg (by omega), Int.mul_zero]]
    show sumN k (fun l => M a l * (if k = k then (if l = k then det k M else if l < k then -(sumN k (fun j => adjM k M l j * M j k)) else 0) else if l = k then 1 else 0)) + M a k * (if k = k then (if k = k then det k M else if k < k then -(sumN k (fun j => adjM k M k j * M j k)) else 0) else if k = k then 1 else 0) = 0
    have e : sumN k (fun l => M a l * (if k = k then (if l = k then det k M else if l < k then -(sumN k (fun j => adjM k M l j * M j k)) else 0) else if l = k then 1 else 0)) = - sumN k (fun l => M a l * sumN k (fun j => adjM k M l j * M j k)) := by
      rw [← sumN_neg]
      exact sumN_congr fun l hl => by rw [if_pos rfl, if_neg (by omega), if_pos hl, Int.mul_neg]
    rw [e, ← hcol a ha, if_pos rfl, if_pos rfl]
    omega
  have t : det n (fun a b => if b = k then (if a = k then det k M else if a < k then -(sumN k (fun j => adjM k M a j * M j k)) else 0) else if a = b then 1 else 0) = det k M := by
    rw [det_tri n _ fun a b _ hb => by
      by_cases e : b = k
      · rw [if_pos e, if_neg (by omega), if_neg (by omega)]
      · rw [if_neg e, if_neg (by omega)]]
    have one : ∀ q, prodN q (fun i => if i = k then (if i = k then det k M else if i < k then -(sumN k (fun j => adjM k M i j * M j k)) else 0) else if i = i then (1 : Int) else 0) = if k < q then det k M else 1 := fun q => by
      induction q with
      | zero => rfl
      | succ q ih =>
        rw [prodN, ih]
        by_cases e : q = k
        · rw [if_pos e, if_pos e, if_neg (by omega), if_pos (by omega), Int.one_mul]
        · rw [if_neg e, if_pos rfl, Int.mul_one]
          by_cases h2 : k < q
          · rw [if_pos h2, if_pos (by omega)]
          · rw [if_neg h2, if_neg (by omega)]
    rw [one n, if_pos hkn]
  rw [z, t] at d
  rcases Int.mul_eq_zero.1 d.symm with h | h
  · exact h
  · exact absurd h h0

end Go.Proofs.YtdedolkgcdlmeaaGreatDoor

/- Bareiss, step by step: what the numbers are while rows are cleared. No Go in it. -/
namespace Go.Proofs.YtdedolkgcdlmeaaGreatDoor
open Go.RowKit Limbs

/-- While rows are cleared: k places are done; P: the rows at the beginning, turned about as they are now. -/
structure BarI (n k : Nat) (M : Nat → Nat → Int) (B : Int) (t last : Int) (R P : Nat → Nat → Int) : Prop where
  sgn : t * t = 1
  dets : det n P = t * det n M
  piv : last = det k P
  ne : last ≠ 0
  ents : ∀ i j, k ≤ i → i < n → k ≤ j → j < n → R i j = bord k P i j
  small : ∀ i j, i < n → j < n → absI (P i j) ≤ B

section
variable {n k : Nat} {M R P : Nat → Nat → Int} {B t last : Int}

theorem BarI.start (h : ∀ i j, i < n → j < n → absI (M i j) ≤ B) : BarI n 0 M B 1 1 M M :=
  ⟨rfl, (Int.one_mul _).symm, rfl, by decide, fun i j _ _ _ _ => (bord_zero M i j).symm, h⟩

theorem BarI.none (C : BarI n k M B t last R P) (hk : k < n) (h : ∀ i, k ≤ i → i < n → R i k = 0) : det n M = 0 := by
  have h0 : det k P ≠ 0 := by rw [← C.piv]; exact C.ne
  have h1 := bord_none h0 hk fun i h1 h2 => by rw [← C.ents i k h1 h2 (Nat.le_refl k) hk]; exact h i h1 h2
  rw [C.dets] at h1
  rcases Int.mul_eq_zero.1 h1 with h2 | h2
  · have := C.sgn; rw [h2] at this; cases this
  · exact h2

/-- Which row is where, when two have changed places. -/
def sw (i k a : Nat) : Nat := if a = i then k else if a = k then i else a

theorem swapRows_sw (M : Nat → Nat → Int) (i k a b : Nat) : swapRows M i k a b = M (sw i k a) b := by
  unfold swapRows sw
  split
  · rfl
  · split <;> rfl

theorem BarI.swap (C : BarI n k M B t last R P) {f : Nat} (hk : k < f) (hf : f < n) : BarI n k M B (-t) last (swapRows R k f) (swapRows P k f) := by
  have low : ∀ a, a < k → sw k f a = a := fun a ha => by unfold sw; rw [if_neg (by omega), if_neg (by omega)]
  have inn : ∀ a, k ≤ a → a < n → k ≤ sw k f a ∧ sw k f a < n := fun a h1 h2 => by unfold sw; split <;> (try split) <;> omega
  have d0 : det k (swapRows P k f) = det k P := det_congr fun a b ha _ => by rw [swapRows_sw, low a ha]
  refine ⟨by rw [Int.neg_mul_neg]; exact C.sgn, ?_, by rw [d0]; exact C.piv, C.ne, fun i j h1 h2 h3 h4 => ?_, fun i j hi hj => ?_⟩
  · rw [swap_of_alt (det_alt n) P k f hk hf, C.dets, Int.neg_mul]
  · rw [swapRows_sw, C.ents _ j (inn i h1 h2).1 (inn i h1 h2).2 h3 h4]
    refine det_congr fun a b _ _ => ?_
    rw [swapRows_sw]
    congr 1
    unfold ix
    by_cases ha : a < k
    · rw [if_pos ha, if_pos ha, low a ha]
    · rw [if_neg ha, if_neg ha]
  · rw [swapRows_sw]
    refine C.small _ j ?_ hj
    unfold sw; split <;> (try split) <;> omega

theorem BarI.step (C : BarI n k M B t last R P) (hk : k < n) (h0 : R k k ≠ 0) {R' : Nat → Nat → Int} (h : ∀ i j, k < i → i < n → k < j → j < n → R' i j * last = R k k * R i j - R i k * R k j) : BarI n (k + 1) M B t (R k k) R' P := by
  have hd : det k P ≠ 0 := by rw [← C.piv]; exact C.ne
  refine ⟨C.sgn, C.dets, ?_, h0, fun i j h1 h2 h3 h4 => ?_, C.small⟩
  · rw [C.ents k k (Nat.le_refl k) hk (Nat.le_refl k) hk, bord_self]
  · have e := h i j h1 h2 h3 h4
    rw [C.ents k k (Nat.le_refl k) hk (Nat.le_refl k) hk, C.ents i j (by omega) h2 (by omega) h4, C.ents i k (by omega) h2 (Nat.le_refl k) hk, C.ents k j (Nat.le_refl k) hk (by omega) h4, bareiss hd i j, ← C.piv] at e
    exact Int.eq_of_mul_eq_mul_right C.ne e

/-- What is divided: it goes up. -/
theorem BarI.goes (C : BarI n k M B t last R P) (hk : k < n) {i j : Nat} (h1 : k < i) (h2 : i < n) (h3 : k ≤ j) (h4 : j < n) : R k k * R i j - R i k * R k j = bord (k + 1) P i j * last := by
  have hd : det k P ≠ 0 := by rw [← C.piv]; exact C.ne
  rw [C.ents k k (Nat.le_refl k) hk (Nat.le_refl k) hk, C.ents i j (by omega) h2 h3 h4, C.ents i k (by omega) h2 (Nat.le_refl k) hk, C.ents k j (Nat.le_refl k) hk h3 h4, bareiss hd i j, ← C.piv]

theorem BarI.congr (C : BarI n k M B t last R P) {R' : Nat → Nat → Int} (h : ∀ i j, i < n → j < n → R' i j = R i j) : BarI n k M B t last R' P :=
  ⟨C.sgn, C.dets, C.piv, C.ne, fun i j h1 h2 h3 h4 => (h i j h2 h4).trans (C.ents i j h1 h2 h3 h4), C.small⟩

theorem BarI.fin (C : BarI n n M B t last R P) : t * last = det n M := by
  rw [C.piv, C.dets, ← Int.mul_assoc, C.sgn, Int.one_mul]

theorem bord_le (hB : 0 ≤ B) (h : ∀ i j, i < n → j < n → absI (P i j) ≤ B) {i j : Nat} (hk : k ≤ n) (hi : i < n) (hj : j < n) : absI (bord k P i j) ≤ facP (k + 1) B :=
  det_le _ B hB fun a b ha hb => h _ _ (by unfold ix; split <;> omega) (by unfold ix; split <;> omega)

end

end Go.Proofs.YtdedolkgcdlmeaaGreatDoor

/- What is made of rows, by the first row; a place left out. No Go in it. -/
namespace Go.Proofs.YtdedolkgcdlmeaaGreatDoor
open Go.RowKit Limbs

/-- The first row behind the k rows that follow it. -/
def rt (k a : Nat) : Nat := if a < k then a + 1 else if a = k then 0 else a

theorem rt_step (k a : Nat) : rt (k + 1) a = rt k (sw k (k + 1) a) := by
  unfold rt sw
  repeat' split
  all_goals omega

theorem det_rt (n : Nat) (M : Nat → Nat → Int) : ∀ k, k ≤ n → det (n + 1) (fun a b => M (rt k a) b) = sgnN k * det (n + 1) M := fun k => by
  induction k with
  | zero =>
    intro _
    rw [show sgnN 0 = 1 from rfl, Int.one_mul]
    exact det_congr fun a b _ _ => by
      have : rt 0 a = a := by unfold rt; split <;> (try split) <;> omega
      rw [this]
  | succ k ih =>
    intro hk
    have e : det (n + 1) (fun a b => M (rt (k + 1) a) b) = det (n + 1) (swapRows (fun a b => M (rt k a) b) k (k + 1)) := det_congr fun a b _ _ => by rw [swapRows_sw, rt_step]
    rw [e, det_swap (n + 1) _ k (k + 1) (by omega) (by omega), ih (by omega), sgnN_succ, Int.neg_mul]

theorem det_first (n : Nat) (M : Nat → Nat → Int) : det (n + 1) M = sumN (n + 1) (fun c => sgnN c * (M 0 c * det n (fun a b => M (a + 1) (sk c b)))) := by
  have h := det_rt n M n (Nat.le_refl n)
  have e1 : det (n + 1) (fun a b => M (rt n a) b) = sumN (n + 1) (fun c => sgnN (n + c) * (M 0 c * det n (fun a b => M (a + 1) (sk c b)))) := by
    rw [det]
    refine sumN_congr fun c hc => ?_
    have e2 : rt n n = 0 := by unfold rt; rw [if_neg (by omega), if_pos rfl]
    have e3 : det n (fun a b => M (rt n a) (sk c b)) = det n (fun a b => M (a + 1) (sk c b)) := det_congr fun a b ha _ => by
      have : rt n a = a + 1 := by unfold rt; rw [if_pos ha]
      rw [this]
    rw [e2, e3, Int.mul_assoc]
  rw [e1] at h
  have h2 : sgnN n * sumN (n + 1) (fun c => sgnN (n + c) * (M 0 c * det n (fun a b => M (a + 1) (sk c b)))) = sgnN n * (sgnN n * det (n + 1) M) := by rw [h]
  rw [← Int.mul_assoc (sgnN n) (sgnN n), sgnN_sq, Int.one_mul, ← sumN_mul] at h2
  rw [← h2]
  refine sumN_congr fun c _ => ?_
  rw [← Int.mul_assoc, sgnN_mul]
  congr 1
  unfold sgnN
  by_cases hc : c % 2 = 0
  · rw [if_pos hc, if_pos (by omega)]
  · rw [if_neg hc, if_neg (by omega)]

theorem erase_getD (l : List Int) (c b : Nat) : (l.eraseIdx c).getD b 0 = l.getD (sk c b) 0 := by
  rw [List.getD_eq_getElem?_getD, List.getD_eq_getElem?_getD, List.getElem?_eraseIdx]
  unfold sk
  split <;> rfl

theorem erase_take_ne (us : List Int) (c k : Nat) (hk : k < us.length) (hne : k ≠ c) : (us.take (k + 1)).eraseIdx c = (us.take k).eraseIdx c ++ [us.getD k 0] := by
  have e : us.take (k + 1) = us.take k ++ [us.getD k 0] := by
    rw [List.take_succ_eq_append_getElem hk, List.getD_eq_getElem?_getD, List.getElem?_eq_getElem hk, Option.getD_some]
  have hl : (us.take k).length = k := by rw [List.length_take]; omega
  rw [e]
  rcases Nat.lt_or_gt_of_ne hne with h | h
  · rw [List.eraseIdx_of_length_le (by rw [List.length_append, hl, List.length_singleton]; omega), List.eraseIdx_of_length_le (by omega)]
  · rw [List.eraseIdx_append_of_lt_length (by omega)]

theorem erase_take_at (us : List Int) (c : Nat) (hk : c < us.length) : (us.take (c + 1)).eraseIdx c = (us.take c).eraseIdx c := by
  have hl : (us.take c).length = c := by rw [List.length_take]; omega
  rw [List.take_succ_eq_append_getElem hk, List.eraseIdx_append_of_length_le (by omega), hl, Nat.sub_self, List.eraseIdx_cons_zero, List.append_nil, List.eraseIdx_of_length_le (by omega)]

/-- Rows but the first one, without a place. -/
def restL (ms : List (List Int)) (c : Nat) : List (List Int) := (ms.drop 1).map fun r => r.eraseIdx c

theorem restL_length (ms : List (List Int)) (c : Nat) : (restL ms c).length = ms.length - 1 := by simp [restL]

theorem restL_len {ms : List (List Int)} {c n : Nat} (hc : c < n + 1) (h : ∀ u ∈ ms, u.length = n + 1) : ∀ u ∈ restL ms c, u.length = n := fun u hu => by
  obtain ⟨r, hr, rfl⟩ := List.mem_map.1 hu
  have h1 := h r (List.mem_of_mem_drop hr)
  show (r.eraseIdx c).length = n
  rw [List.length_eraseIdx, if_pos (by omega)]
  omega

theorem restL_ent (ms : List (List Int)) (c a b : Nat) : ent (restL ms c) a b = ent ms (a + 1) (sk c b) := by
  have e : (restL ms c).getD a [] = (ms.getD (a + 1) []).eraseIdx c := by
    unfold restL
    rw [List.getD_eq_getElem?_getD, List.getElem?_map, List.getElem?_drop, Nat.add_comm 1 a, List.getD_eq_getElem?_getD]
    by_cases h : a + 1 < ms.length
    · rw [List.getElem?_eq_getElem h]; rfl
    · rw [List.getElem?_eq_none (by omega)]; simp
  unfold ent
  rw [e, erase_getD]

theorem restL_take (ms : List (List Int)) (c i : Nat) (hi : i + 1 < ms.length) : (restL ms c).take (i + 1) = (restL ms c).take i ++ [(ms.getD (i + 1) []).eraseIdx c] := by
  have hl : i < (restL ms c).length := by rw [restL_length]; omega
  rw [List.take_succ_eq_append_getElem hl]
  have e : (restL ms c)[i]? = some ((ms.getD (i + 1) []).eraseIdx c) := by
    unfold restL
    rw [List.getElem?_map, List.getElem?_drop, Nat.add_comm 1 i, List.getElem?_eq_getElem hi, getD_row hi]; rfl
  rw [List.getElem?_eq_getElem hl] at e
  rw [Option.some.inj e]

end Go.Proofs.YtdedolkgcdlmeaaGreatDoor
