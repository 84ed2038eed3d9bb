/- Sylvester: bordered determinants, two rows and two places further. No Go in it. -/
import Derived.Test.YtdedolkgcdlmeaaGreatDoorSmT
import Derived.Test.YtdedolkgcdlmeaaGreatDoorBehL
import Derived.Test.YtdedolkgcdlmeaaGreatDoorSmV

namespace Go.Proofs.YtdedolkgcdlmeaaGreatDoor
open Go.RowKit Limbs

def adjM (k : Nat) (A : Nat → Nat → Int) : Nat → Nat → Int := fun j i => det k (setRow A i (unitR j))

theorem adj_mul (k : Nat) (A : Nat → Nat → Int) (l i : Nat) (hl : l < k) (hi : i < k) : sumN k (fun j => A l j * adjM k A j i) = if l = i then det k A else 0 := by
 have e1 : sumN k (fun j => A l j * adjM k A j i) = det k (setRow A i (fun b => sumN k (fun j => A l j * unitR j b))) := (det_row_sum k A i hi k (fun j => A l j) unitR).symm
 have e2 : det k (setRow A i (fun b => sumN k (fun j => A l j * unitR j b))) = det k (setRow A i (A l)) := det_congr fun a b _ hb => by
  unfold setRow
  split
  ·exact sum_unit k (A l) b hb
  ·rfl
 rw [e1, e2]
 by_cases h : l = i
 ·rw [if_pos h, h, setRow_self]
 ·rw [if_neg h]
  rcases Nat.lt_or_gt_of_ne h with hlt | hlt
  ·exact det_alt k _ l i hlt hi fun b => by rw [setRow_at, setRow_ne A i (A l) h]
  ·exact det_alt k _ i l hlt hl fun b => by rw [setRow_at, setRow_ne A i (A l) h]

def clr (k : Nat) (M : Nat → Nat → Int) (p r : Nat) : Int := M p r * det k M - sumN k (fun l => M p l * sumN k (fun j => adjM k M l j * M j r))

theorem clr_low (k : Nat) (M : Nat → Nat → Int) (p r : Nat) (hp : p < k) : clr k M p r = 0 := by
 have e1 : sumN k (fun l => M p l * sumN k (fun j => adjM k M l j * M j r)) = sumN k (fun j => sumN k (fun l => M p l * adjM k M l j) * M j r) := by
  have e2 : sumN k (fun l => M p l * sumN k (fun j => adjM k M l j * M j r)) = sumN k (fun l => sumN k (fun j => M p l * adjM k M l j * M j r)) := sumN_congr fun l _ => by
   rw [← sumN_mul]
   exact sumN_congr fun j _ => by rw [Int.mul_assoc]
  rw [e2, sumN_swap]
  exact sumN_congr fun j _ => by
   rw [Int.mul_comm (sumN _ _), ← sumN_mul]
   exact sumN_congr fun l _ => by rw [Int.mul_comm]
 unfold clr
 rw [e1, sumN_single k p hp _ fun j hj hne => by rw [adj_mul k M p j hp hj, if_neg (Ne.symm hne), Int.zero_mul], adj_mul k M p p hp hp, if_pos rfl, Int.mul_comm]
 omega

def clrV (k : Nat) (M : Nat → Nat → Int) : Nat → Nat → Int := fun a b => if b < k then (if a = b then 1 else 0) else if a < k then -(sumN k (fun j => adjM k M a j * M j b)) else if a = b then det k M else 0

theorem clrV_left (k m : Nat) (M : Nat → Nat → Int) (hm : k ≤ m) (a b : Nat) (hb : b < k) : mulM m M (clrV k M) a b = M a b := by
 show sumN m (fun l => M a l * clrV k M l b) = _
 rw [sumN_single m b (by omega) _ fun l _ hne => by unfold clrV; rw [if_pos hb, if_neg hne, Int.mul_zero]]
 unfold clrV
 rw [if_pos hb, if_pos rfl, Int.mul_one]

theorem clrV_sum (k : Nat) (M : Nat → Nat → Int) (a b : Nat) (hb : ¬ b < k) : sumN k (fun l => M a l * clrV k M l b) = - sumN k (fun l => M a l * sumN k (fun j => adjM k M l j * M j b)) := by
 rw [← sumN_neg]
 refine sumN_congr fun l hl => ?_
 unfold clrV
 rw [if_neg hb, if_pos hl, Int.mul_neg]

theorem clrV_one (k : Nat) (M : Nat → Nat → Int) (a : Nat) : mulM (k + 1) M (clrV k M) a k = clr k M a k := by
 show sumN k (fun l => M a l * clrV k M l k) + M a k * clrV k M k k = _
 rw [clrV_sum k M a k (Nat.lt_irrefl k)]
 unfold clr clrV
 rw [if_neg (Nat.lt_irrefl k), if_neg (Nat.lt_irrefl k), if_pos rfl]
 omega

theorem clrV_two (k : Nat) (M : Nat → Nat → Int) (a b : Nat) (hb : b = k ∨ b = k + 1) : mulM (k + 2) M (clrV k M) a b = clr k M a b := by
 show sumN k (fun l => M a l * clrV k M l b) + M a k * clrV k M k b + M a (k + 1) * clrV k M (k + 1) b = _
 rw [clrV_sum k M a b (by omega)]
 unfold clr clrV
 rcases hb with rfl | rfl
 ·rw [if_neg (Nat.lt_irrefl b), if_neg (Nat.lt_irrefl b), if_pos rfl, if_neg (Nat.lt_irrefl b), if_neg (by omega), if_neg (by omega), Int.mul_zero]
  omega
 ·rw [if_neg (by omega), if_neg (by omega), if_neg (by omega), if_neg (by omega), if_neg (by omega), if_pos rfl, Int.mul_zero]
  omega

theorem clrV_det (k : Nat) (M : Nat → Nat → Int) : det (k + 1) (clrV k M) = det k M ∧ det (k + 2) (clrV k M) = det k M * det k M := by
 have tri : ∀ a b, b < a → clrV k M a b = 0 := fun a b h => by
  unfold clrV
  by_cases hb : b < k
  ·rw [if_pos hb, if_neg (by omega)]
  ·rw [if_neg hb, if_neg (by omega), if_neg (by omega)]
 have one : ∀ q, q ≤ k → prodN q (fun i => clrV k M i i) = 1 := fun q => by
  induction q with
  | zero => exact fun _ => rfl
  | succ q ih =>
   intro hq
   rw [prodN, ih (by omega)]
   unfold clrV
   rw [if_pos (by omega), if_pos rfl]
   rfl
 have d1 : clrV k M k k = det k M := by unfold clrV; rw [if_neg (by omega), if_neg (by omega), if_pos rfl]
 have d2 : clrV k M (k + 1) (k + 1) = det k M := by unfold clrV; rw [if_neg (by omega), if_neg (by omega), if_pos rfl]
 refine ⟨?_, ?_⟩
 ·rw [det_tri (k + 1) _ fun a b _ h => tri a b h, prodN, one k (Nat.le_refl k), d1, Int.one_mul]
 ·rw [det_tri (k + 2) _ fun a b _ h => tri a b h, prodN, prodN, one k (Nat.le_refl k), d1, d2, Int.one_mul]

theorem det_low_one (k : Nat) (W : Nat → Nat → Int) (h : ∀ a, a < k → W a k = 0) : det (k + 1) W = W k k * det k W := by
 rw [det, sumN_single (k + 1) k (by omega) _ fun j hj hne => by
  have : det k (fun a b => W a (sk j b)) = 0 := det_col_zero k _ (k - 1) (by omega) fun a ha => by
   show W a (sk j (k - 1)) = 0
   rw [sk_ge (by omega), show k - 1 + 1 = k by omega]
   exact h a ha
  rw [this, Int.mul_zero]]
 have e : det k (fun a b => W a (sk k b)) = det k W := det_congr fun a b _ hb => by rw [sk_lt hb]
 have s : sgnN (k + k) = 1 := by unfold sgnN; rw [if_pos (by omega)]
 rw [e, s, Int.one_mul]

theorem det_low_two (k : Nat) (W : Nat → Nat → Int) (h : ∀ a b, a < k → (b = k ∨ b = k + 1) → W a b = 0) : det (k + 2) W = (W k k * W (k + 1) (k + 1) - W k (k + 1) * W (k + 1) k) * det k W := by
 have minor : ∀ j, j < k → det (k + 1) (fun a b => W a (sk j b)) = 0 := fun j hj => by
  rw [det_low_one k _ fun a ha => by
   show W a (sk j k) = 0
   rw [sk_ge (by omega)]; exact h a (k + 1) ha (.inr rfl)]
  have : det k (fun a b => W a (sk j b)) = 0 := det_col_zero k _ (k - 1) (by omega) fun a ha => by
   show W a (sk j (k - 1)) = 0
   rw [sk_ge (by omega), show k - 1 + 1 = k by omega]
   exact h a k ha (.inl rfl)
  rw [this, Int.mul_zero]
 have m0 : det (k + 1) (fun a b => W a (sk k b)) = W k (k + 1) * det k W := by
  rw [det_low_one k _ fun a ha => by
   show W a (sk k k) = 0
   rw [sk_ge (by omega)]; exact h a (k + 1) ha (.inr rfl)]
  have e : det k (fun a b => W a (sk k b)) = det k W := det_congr fun a b _ hb => by rw [sk_lt hb]
  rw [e, sk_ge (by omega)]
 have m1 : det (k + 1) (fun a b => W a (sk (k + 1) b)) = W k k * det k W := by
  rw [det_low_one k _ fun a ha => by
   show W a (sk (k + 1) k) = 0
   rw [sk_lt (by omega)]; exact h a k ha (.inl rfl)]
  have e : det k (fun a b => W a (sk (k + 1) b)) = det k W := det_congr fun a b _ hb => by rw [sk_lt (by omega)]
  rw [e, sk_lt (by omega)]
 rw [det]
 show sumN k (fun j => sgnN (k + 1 + j) * W (k + 1) j * det (k + 1) (fun a b => W a (sk j b))) + sgnN (k + 1 + k) * W (k + 1) k * det (k + 1) (fun a b => W a (sk k b)) + sgnN (k + 1 + (k + 1)) * W (k + 1) (k + 1) * det (k + 1) (fun a b => W a (sk (k + 1) b)) = _
 have z : sumN k (fun j => sgnN (k + 1 + j) * W (k + 1) j * det (k + 1) (fun a b => W a (sk j b))) = 0 := (sumN_congr (g := fun _ => 0) fun j hj => by rw [minor j hj, Int.mul_zero]).trans (sumN_zero k)
 have s0 : sgnN (k + 1 + k) = -1 := by unfold sgnN; rw [if_neg (by omega)]
 have s1 : sgnN (k + 1 + (k + 1)) = 1 := by unfold sgnN; rw [if_pos (by omega)]
 rw [z, m0, m1, s0, s1, Int.one_mul, Int.sub_mul]
 have e1 : -1 * W (k + 1) k * (W k (k + 1) * det k W) = -(W k (k + 1) * W (k + 1) k * det k W) := by
  rw [Int.neg_mul, Int.one_mul, Int.neg_mul, ← Int.mul_assoc, Int.mul_comm (W (k + 1) k)]
 have e2 : W (k + 1) (k + 1) * (W k k * det k W) = W k k * W (k + 1) (k + 1) * det k W := by
  rw [← Int.mul_assoc, Int.mul_comm (W (k + 1) (k + 1))]
 rw [e1, e2]
 omega

def ix (k p a : Nat) : Nat := if a < k then a else p
def ix2 (k p q a : Nat) : Nat := if a < k then a else if a = k then p else q

def bord (k : Nat) (M : Nat → Nat → Int) (p r : Nat) : Int := det (k + 1) (fun a b => M (ix k p a) (ix k r b))
def bord2 (k : Nat) (M : Nat → Nat → Int) (p q r s : Nat) : Int := det (k + 2) (fun a b => M (ix2 k p q a) (ix2 k r s b))

theorem clr_ix (k : Nat) (M : Nat → Nat → Int) (f g : Nat → Nat) (hf : ∀ a, a < k → f a = a) (hg : ∀ a, a < k → g a = a) (p r : Nat) : clr k (fun a b => M (f a) (g b)) p r = clr k M (f p) (g r) := by
 have e0 : det k (fun a b => M (f a) (g b)) = det k M := det_congr fun a b ha hb => by rw [hf a ha, hg b hb]
 have e1 : ∀ l j, l < k → j < k → adjM k (fun a b => M (f a) (g b)) l j = adjM k M l j := fun l j _ hj => det_congr fun a b ha hb => by
  unfold setRow
  split
  ·rfl
  ·show M (f a) (g b) = M a b
   rw [hf a ha, hg b hb]
 unfold clr
 rw [e0]
 have e2 : sumN k (fun l => M (f p) (g l) * sumN k (fun j => adjM k (fun a b => M (f a) (g b)) l j * M (f j) (g r))) = sumN k (fun l => M (f p) l * sumN k (fun j => adjM k M l j * M j (g r))) := sumN_congr fun l hl => by
  rw [hg l hl]
  congr 1
  exact sumN_congr fun j hj => by rw [e1 l j hl hj, hf j hj]
 rw [e2]

theorem bord_clr {k : Nat} {M : Nat → Nat → Int} (h0 : det k M ≠ 0) (p r : Nat) : bord k M p r = clr k M p r := by
 have hix : ∀ q a, a < k → ix k q a = a := fun q a ha => if_pos ha
 have e0 : det k (fun a b => M (ix k p a) (ix k r b)) = det k M := det_congr fun a b ha hb => by rw [hix p a ha, hix r b hb]
 have d := det_mul (k + 1) (fun a b => M (ix k p a) (ix k r b)) (clrV k (fun a b => M (ix k p a) (ix k r b)))
 rw [(clrV_det k _).1, det_low_one k _ fun a ha => by rw [clrV_one, clr_low k _ a k ha], clrV_one, clr_ix k M (ix k p) (ix k r) (hix p) (hix r)] at d
 have e1 : det k (mulM (k + 1) (fun a b => M (ix k p a) (ix k r b)) (clrV k (fun a b => M (ix k p a) (ix k r b)))) = det k M := by
  rw [← e0]
  exact det_congr fun a b _ hb => clrV_left k (k + 1) _ (by omega) a b hb
 rw [e1, e0, show ix k p k = p from if_neg (by omega), show ix k r k = r from if_neg (by omega)] at d
 exact (Int.eq_of_mul_eq_mul_right h0 d).symm

theorem sylvester {k : Nat} {M : Nat → Nat → Int} (h0 : det k M ≠ 0) (p q r s : Nat) : bord2 k M p q r s * det k M = bord k M p r * bord k M q s - bord k M p s * bord k M q r := by
 have hix : ∀ q q' a, a < k → ix2 k q q' a = a := fun q q' a ha => if_pos ha
 have e0 : det k (fun a b => M (ix2 k p q a) (ix2 k r s b)) = det k M := det_congr fun a b ha hb => by rw [hix p q a ha, hix r s b hb]
 have d := det_mul (k + 2) (fun a b => M (ix2 k p q a) (ix2 k r s b)) (clrV k (fun a b => M (ix2 k p q a) (ix2 k r s b)))
 rw [(clrV_det k _).2, det_low_two k _ fun a b ha hb => by rw [clrV_two _ _ _ _ hb, clr_low k _ a b ha], clrV_two _ _ _ _ (.inl rfl), clrV_two _ _ _ _ (.inr rfl), clrV_two _ _ _ _ (.inr rfl), clrV_two _ _ _ _ (.inl rfl)] at d
 simp only [clr_ix k M (ix2 k p q) (ix2 k r s) (hix p q) (hix r s)] at d
 have e1 : det k (mulM (k + 2) (fun a b => M (ix2 k p q a) (ix2 k r s b)) (clrV k (fun a b => M (ix2 k p q a) (ix2 k r s b)))) = det k M := by
  rw [← e0]
  exact det_congr fun a b _ hb => clrV_left k (k + 2) _ (by omega) a b hb
 have i0 : ∀ x y, ix2 k x y k = x := fun x y => by unfold ix2; rw [if_neg (by omega), if_pos rfl]
 have i1 : ∀ x y, ix2 k x y (k + 1) = y := fun x y => by unfold ix2; rw [if_neg (by omega), if_neg (by omega)]
 rw [e1, e0, i0, i0, i1, i1] at d
 rw [bord_clr h0, bord_clr h0, bord_clr h0, bord_clr h0]
 rw [← Int.mul_assoc] at d
 exact (Int.eq_of_mul_eq_mul_right h0 d).symm

theorem bareiss {k : Nat} {M : Nat → Nat → Int} (h0 : det k M ≠ 0) (i j : Nat) : bord k M k k * bord k M i j - bord k M i k * bord k M k j = bord (k + 1) M i j * det k M := by
 have e : bord2 k M k i k j = bord (k + 1) M i j := det_congr fun a b _ _ => by
  have : ∀ x c, ix2 k k x c = ix (k + 1) x c := fun x c => by
   unfold ix2 ix
   by_cases h1 : c < k
   ·rw [if_pos h1, if_pos (by omega)]
   ·rw [if_neg h1]
    by_cases h2 : c = k
    ·rw [if_pos h2, if_pos (by omega), h2]
    ·rw [if_neg h2, if_neg (by omega)]
  rw [this, this]
 rw [← e, sylvester h0 k i k j, Int.mul_comm (bord k M i k)]

theorem bord_self (k : Nat) (M : Nat → Nat → Int) : bord k M k k = det (k + 1) M := det_congr fun a b ha hb => by
 have : ∀ c, c < k + 1 → ix k k c = c := fun c hc => by
  unfold ix
  by_cases h : c < k
  ·rw [if_pos h]
  ·rw [if_neg h]; omega
 rw [this a ha, this b hb]

theorem bord_zero (M : Nat → Nat → Int) (i j : Nat) : bord 0 M i j = M i j := by
 unfold bord
 rw [det]
 show 0 + sgnN (0 + 0) * M (ix 0 i 0) (ix 0 j 0) * 1 = _
 have : sgnN (0 + 0) = 1 := rfl
 rw [this]
 show 0 + 1 * M i j * 1 = _
 omega

theorem bord_none {k n : Nat} {M : Nat → Nat → Int} (h0 : det k M ≠ 0) (hkn : k < n) (h : ∀ i, k ≤ i → i < n → bord k M i k = 0) : det n M = 0 := by
 -- the first k+1 places of all rows: each row times the determinant of the first ones is made of the first k rows there
 have hc : ∀ i, i < n → clr k M i k = 0 := fun i hi => by
  by_cases hk : i < k
  ·exact clr_low k M i k hk
  ·rw [← bord_clr h0]; exact h i (by omega) hi
 -- so place k, times that determinant, is made of the places ahead
 have hcol : ∀ i, i < n → M i k * det k M = sumN k (fun l => M i l * sumN k (fun j => adjM k M l j * M j k)) := fun i hi => by
  have := hc i hi
  unfold clr at this
  omega
 have d := det_mul n M (fun a b => if b = k then (if a = k then det k M else if a < k then -(sumN k (fun j => adjM k M a j * M j k)) else 0) else if a = b then 1 else 0)
 have z : det n (mulM n M (fun a b => if b = k then (if a = k then det k M else if a < k then -(sumN k (fun j => adjM k M a j * M j k)) else 0) else if a = b then 1 else 0)) = 0 := det_col_zero n _ k hkn fun a ha => by
  show sumN n (fun l => M a l * (if k = k then (if l = k then det k M else if l < k then -(sumN k (fun j => adjM k M l j * M j k)) else 0) else if l = k then 1 else 0)) = 0
  rw [show n = (k + 1) + (n - (k + 1)) by omega, sumN_cut (k + 1) _ _ fun l h1 _ => by rw [if_pos rfl, if_neg (by omega), if_neg (by omega), Int.mul_zero]]
  show sumN k (fun l => M a l * (if k = k then (if l = k then det k M else if l < k then -(sumN k (fun j => adjM k M l j * M j k)) else 0) else if l = k then 1 else 0)) + M a k * (if k = k then (if k = k then det k M else if k < k then -(sumN k (fun j => adjM k M k j * M j k)) else 0) else if k = k then 1 else 0) = 0
  have e : sumN k (fun l => M a l * (if k = k then (if l = k then det k M else if l < k then -(sumN k (fun j => adjM k M l j * M j k)) else 0) else if l = k then 1 else 0)) = - sumN k (fun l => M a l * sumN k (fun j => adjM k M l j * M j k)) := by
   rw [← sumN_neg]
   exact sumN_congr fun l hl => by rw [if_pos rfl, if_neg (by omega), if_pos hl, Int.mul_neg]
  rw [e, ← hcol a ha, if_pos rfl, if_pos rfl]
  omega
 have t : det n (fun a b => if b = k then (if a = k then det k M else if a < k then -(sumN k (fun j => adjM k M a j * M j k)) else 0) else if a = b then 1 else 0) = det k M := by
  rw [det_tri n _ fun a b _ hb => by
   by_cases e : b = k
   ·rw [if_pos e, if_neg (by omega), if_neg (by omega)]
   ·rw [if_neg e, if_neg (by omega)]]
  have one : ∀ q, prodN q (fun i => if i = k then (if i = k then det k M else if i < k then -(sumN k (fun j => adjM k M i j * M j k)) else 0) else if i = i then (1 : Int) else 0) = if k < q then det k M else 1 := fun q => by
   induction q with
   | zero => rfl
   | succ q ih =>
    rw [prodN, ih]
    by_cases e : q = k
    ·rw [if_pos e, if_pos e, if_neg (by omega), if_pos (by omega), Int.one_mul]
    ·rw [if_neg e, if_pos rfl, Int.mul_one]
     by_cases h2 : k < q
     ·rw [if_pos h2, if_pos (by omega)]
     ·rw [if_neg h2, if_neg (by omega)]
  rw [one n, if_pos hkn]
 rw [z, t] at d
 rcases Int.mul_eq_zero.1 d.symm with h | h
 ·exact h
 ·exact absurd h h0

end Go.Proofs.YtdedolkgcdlmeaaGreatDoor

/- Bareiss, step by step: what the numbers are while rows are cleared. No Go in it. -/
namespace Go.Proofs.YtdedolkgcdlmeaaGreatDoor
open Go.RowKit Limbs

structure BarI (n k : Nat) (M : Nat → Nat → Int) (B : Int) (t last : Int) (R P : Nat → Nat → Int) : Prop where
 sgn : t * t = 1
 dets : det n P = t * det n M
 piv : last = det k P
 ne : last ≠ 0
 ents : ∀ i j, k ≤ i → i < n → k ≤ j → j < n → R i j = bord k P i j
 small : ∀ i j, i < n → j < n → absI (P i j) ≤ B

section
variable {n k : Nat} {M R P : Nat → Nat → Int} {B t last : Int}

theorem BarI.start (h : ∀ i j, i < n → j < n → absI (M i j) ≤ B) : BarI n 0 M B 1 1 M M :=
 ⟨rfl, (Int.one_mul _).symm, rfl, by decide, fun i j _ _ _ _ => (bord_zero M i j).symm, h⟩

theorem BarI.none (C : BarI n k M B t last R P) (hk : k < n) (h : ∀ i, k ≤ i → i < n → R i k = 0) : det n M = 0 := by
 have h0 : det k P ≠ 0 := by rw [← C.piv]; exact C.ne
 have h1 := bord_none h0 hk fun i h1 h2 => by rw [← C.ents i k h1 h2 (Nat.le_refl k) hk]; exact h i h1 h2
 rw [C.dets] at h1
 rcases Int.mul_eq_zero.1 h1 with h2 | h2
 ·have := C.sgn; rw [h2] at this; cases this
 ·exact h2

def sw (i k a : Nat) : Nat := if a = i then k else if a = k then i else a

theorem swapRows_sw (M : Nat → Nat → Int) (i k a b : Nat) : swapRows M i k a b = M (sw i k a) b := by
 unfold swapRows sw
 split
 ·rfl
 ·split <;> rfl

theorem BarI.step (C : BarI n k M B t last R P) (hk : k < n) (h0 : R k k ≠ 0) {R' : Nat → Nat → Int} (h : ∀ i j, k < i → i < n → k < j → j < n → R' i j * last = R k k * R i j - R i k * R k j) : BarI n (k + 1) M B t (R k k) R' P := by
 have hd : det k P ≠ 0 := by rw [← C.piv]; exact C.ne
 refine ⟨C.sgn, C.dets, ?_, h0, fun i j h1 h2 h3 h4 => ?_, C.small⟩
 ·rw [C.ents k k (Nat.le_refl k) hk (Nat.le_refl k) hk, bord_self]
 ·have e := h i j h1 h2 h3 h4
  rw [C.ents k k (Nat.le_refl k) hk (Nat.le_refl k) hk, C.ents i j (by omega) h2 (by omega) h4, C.ents i k (by omega) h2 (Nat.le_refl k) hk, C.ents k j (Nat.le_refl k) hk (by omega) h4, bareiss hd i j, ← C.piv] at e
  exact Int.eq_of_mul_eq_mul_right C.ne e

theorem BarI.goes (C : BarI n k M B t last R P) (hk : k < n) {i j : Nat} (h1 : k < i) (h2 : i < n) (h3 : k ≤ j) (h4 : j < n) : R k k * R i j - R i k * R k j = bord (k + 1) P i j * last := by
 have hd : det k P ≠ 0 := by rw [← C.piv]; exact C.ne
 rw [C.ents k k (Nat.le_refl k) hk (Nat.le_refl k) hk, C.ents i j (by omega) h2 h3 h4, C.ents i k (by omega) h2 (Nat.le_refl k) hk, C.ents k j (Nat.le_refl k) hk h3 h4, bareiss hd i j, ← C.piv]

theorem BarI.congr (C : BarI n k M B t last R P) {R' : Nat → Nat → Int} (h : ∀ i j, i < n → j < n → R' i j = R i j) : BarI n k M B t last R' P :=
 ⟨C.sgn, C.dets, C.piv, C.ne, fun i j h1 h2 h3 h4 => (h i j h2 h4).trans (C.ents i j h1 h2 h3 h4), C.small⟩

theorem BarI.fin (C : BarI n n M B t last R P) : t * last = det n M := by
 rw [C.piv, C.dets, ← Int.mul_assoc, C.sgn, Int.one_mul]

end

end Go.Proofs.YtdedolkgcdlmeaaGreatDoor

/- Determinants of some rows and some places: what goes into all of them. No Go in it. -/
namespace Go.Proofs.YtdedolkgcdlmeaaGreatDoor
open Go.RowKit Limbs

theorem prod_four {s t u v x y d : Int} (h : s * t = u * v) : s * x * (t * y * d) = u * y * (v * x * d) := by
 have e1 : s * x * (t * y * d) = (s * t) * (x * y * d) := by ac_rfl
 have e2 : u * y * (v * x * d) = (u * v) * (x * y * d) := by ac_rfl
 rw [e1, e2, h]

theorem det_both (m : Nat) (M : Nat → Nat → Int) (h0 : ∀ X, det m (trM X) = det m X) (h1 : ∀ X, det (m + 1) (trM X) = det (m + 1) X) :
  det (m + 2) M = sumN (m + 1) (fun j => sumN (m + 1) (fun i => sgnN (m + 1 + j) * M (m + 1) j * (sgnN (m + i) * M i (m + 1) * det m (fun a b => M (sk i a) (sk j b))))) + M (m + 1) (m + 1) * det (m + 1) M := by
 rw [det, sumN]
 have e1 : sgnN (m + 1 + (m + 1)) * M (m + 1) (m + 1) * det (m + 1) (fun a b => M a (sk (m + 1) b)) = M (m + 1) (m + 1) * det (m + 1) M := by
  rw [show sgnN (m + 1 + (m + 1)) = 1 by unfold sgnN; rw [if_pos (by omega)], Int.one_mul]
  congr 1
  exact det_congr fun a b _ hb => by rw [sk_lt hb]
 rw [e1]
 congr 1
 refine sumN_congr fun j hj => ?_
 rw [sumN_mul]
 congr 1
 rw [← h1, det]
 refine sumN_congr fun i hi => ?_
 have e2 : trM (fun a b => M a (sk j b)) m i = M i (m + 1) := by
  show M i (sk j m) = _
  rw [sk_ge (by omega)]
 rw [e2]
 congr 1
 exact h0 (fun a b => M (sk i a) (sk j b))

theorem det_tr : ∀ (n : Nat) (M : Nat → Nat → Int), det n (trM M) = det n M := by
 have key : ∀ n, (∀ M, det n (trM M) = det n M) ∧ ∀ M, det (n + 1) (trM M) = det (n + 1) M := fun n => by
  induction n with
  | zero => exact ⟨fun _ => rfl, fun _ => rfl⟩
  | succ m ih =>
   refine ⟨ih.2, fun M => ?_⟩
   rw [det_both m (trM M) ih.1 ih.2, det_both m M ih.1 ih.2, sumN_swap, ih.2 M]
   congr 1
   refine sumN_congr fun j hj => sumN_congr fun i hi => ?_
   have e : det m (fun a b => trM M (sk j a) (sk i b)) = det m (fun a b => M (sk i a) (sk j b)) := ih.1 (fun a b => M (sk i a) (sk j b))
   rw [e]
   exact prod_four (by rw [sgnN_mul, sgnN_mul]; congr 1; omega)
 exact fun n => (key n).1

def Dv (k m n : Nat) (A : Nat → Nat → Int) (g : Int) : Prop := ∀ f c : Nat → Nat, (∀ i, i < k → f i < m) → (∀ i, i < k → c i < n) → g ∣ det k (fun a b => A (f a) (c b))

theorem dvd_sumN {g : Int} (n : Nat) (f : Nat → Int) (h : ∀ i, i < n → g ∣ f i) : g ∣ sumN n f := by
 induction n with
 | zero => exact Int.dvd_zero g
 | succ n ih => exact Int.dvd_add (ih fun i hi => h i (by omega)) (h n (by omega))

section
variable {k m m' n n' : Nat} {A B T V : Nat → Nat → Int} {g : Int}

theorem Dv.congr (h : Dv k m n A g) (e : ∀ i j, i < m → j < n → B i j = A i j) : Dv k m n B g := fun f c hf hc => by
 rw [det_congr fun a b ha hb => e (f a) (c b) (hf a ha) (hc b hb)]
 exact h f c hf hc

theorem Dv.tr (h : Dv k m n A g) : Dv k n m (trM A) g := fun f c hf hc => by
 have e : det k (fun a b => trM A (f a) (c b)) = det k (fun a b => A (c a) (f b)) := det_tr k (fun a b => A (c a) (f b))
 rw [e]
 exact h c f hc hf

theorem Dv.left (h : Dv k m n A g) (e : ∀ a b, a < m' → b < n → B a b = sumN m (fun l => T a l * A l b)) : Dv k m' n B g := fun f c hf hc => by
 have key : ∀ q, q ≤ k → ∀ φ : Nat → Nat, (∀ i, q ≤ i → i < k → φ i < m) → g ∣ det k (fun a b => if a < q then sumN m (fun l => T (f a) l * A l (c b)) else A (φ a) (c b)) := fun q => by
  induction q with
  | zero =>
   intro _ φ hφ
   rw [det_congr (M' := fun a b => A (φ a) (c b)) fun a b _ _ => if_neg (Nat.not_lt_zero a)]
   exact h φ c (fun i hi => hφ i (Nat.zero_le i) hi) hc
  | succ q ih =>
   intro hq φ hφ
   have e1 : det k (fun a b => if a < q + 1 then sumN m (fun l => T (f a) l * A l (c b)) else A (φ a) (c b)) = det k (setRow (fun a b => if a < q then sumN m (fun l => T (f a) l * A l (c b)) else A (φ a) (c b)) q (fun b => sumN m (fun l => T (f q) l * A l (c b)))) := det_congr fun a b _ _ => by
    by_cases ha : a = q
    ·subst ha
     rw [setRow_at, if_pos (by omega)]
    ·rw [setRow_ne _ _ _ ha]
     by_cases hl : a < q
     ·rw [if_pos (by omega), if_pos hl]
     ·rw [if_neg (by omega), if_neg hl]
   rw [e1, det_row_sum k _ q (by omega) m (fun l => T (f q) l) (fun l b => A l (c b))]
   refine dvd_sumN m _ fun l hl => ?_
   have e2 : det k (setRow (fun a b => if a < q then sumN m (fun l => T (f a) l * A l (c b)) else A (φ a) (c b)) q (fun b => A l (c b))) = det k (fun a b => if a < q then sumN m (fun l => T (f a) l * A l (c b)) else A (if a = q then l else φ a) (c b)) := det_congr fun a b _ _ => by
    by_cases ha : a = q
    ·subst ha
     rw [setRow_at, if_neg (by omega), if_pos rfl]
    ·rw [setRow_ne _ _ _ ha, if_neg ha]
   obtain ⟨x, hx⟩ := ih (by omega) (fun a => if a = q then l else φ a) fun i h1 h2 => by
    show (if i = q then l else φ i) < m
    by_cases hi : i = q
    ·rw [if_pos hi]; exact hl
    ·rw [if_neg hi]; exact hφ i (by omega) h2
   exact ⟨T (f q) l * x, by rw [e2, hx]; ac_rfl⟩
 have h1 := key k (Nat.le_refl k) (fun _ => 0) fun i h1 h2 => absurd h1 (by omega)
 rw [det_congr (M' := fun a b => B (f a) (c b)) fun a b ha hb => by rw [if_pos ha, e (f a) (c b) (hf a ha) (hc b hb)]] at h1
 exact h1

theorem Dv.right (h : Dv k m n A g) (e : ∀ a b, a < m → b < n' → B a b = sumN n (fun l => A a l * V l b)) : Dv k m n' B g :=
 (h.tr.left (B := trM B) (T := trM V) (m' := n') fun a b ha hb => by
  show B b a = _
  rw [e b a hb ha]
  exact sumN_congr fun l _ => Int.mul_comm _ _).tr

theorem Dv.equ {r : Nat} (h : Dv k r r A g) (q : Equ r A B) : Dv k r r B g := by
 obtain ⟨U, U', V, V', -, -, e⟩ := q
 exact (h.left (B := mulM r U A) (T := U) fun a b _ _ => rfl).right (V := V) fun a b ha hb => e a b ha hb

theorem dv_over (r n : Nat) (A : Nat → Nat → Int) : Dv (r + 1) r n A 0 := fun f c hf _ => by
 obtain ⟨i, l, h1, h2, h3⟩ := pigeon r f fun i hi => hf i (by omega)
 rw [det_alt (r + 1) _ i l h1 (by omega) fun b => by rw [h3]]
 exact Int.dvd_refl 0

theorem det_dg (k : Nat) (z : Nat → Int) : det k (dgM z) = prodN k z := by
 rw [det_tri k _ fun a b _ hb => by unfold dgM; rw [if_neg (by omega)]]
 exact prodN_congr fun i _ => by unfold dgM; rw [if_pos rfl]

theorem dv_dg {r : Nat} {z : Nat → Int} (hc : ∀ i j, i < j → j < r → ∃ p, z j = p * z i) : ∀ k, k ≤ r → Dv k r r (dgM z) (prodN k z) := fun k => by
 induction k with
 | zero => intro _ f c _ _; exact ⟨1, rfl⟩
 | succ k ih =>
  intro hk f c hf hcc
  by_cases hex : ∃ a, a ≤ k ∧ k ≤ f a
  ·obtain ⟨a, ha, hfa⟩ := hex
   have main : ∀ f' : Nat → Nat, (∀ i, i < k + 1 → f' i < r) → k ≤ f' k → prodN (k + 1) z ∣ det (k + 1) (fun a b => dgM z (f' a) (c b)) := fun f' hf' hk' => by
    rw [det]
    refine dvd_sumN (k + 1) _ fun j hj => ?_
    obtain ⟨x, hx⟩ := ih (by omega) f' (fun b => c (sk j b)) (fun i hi => hf' i (by omega)) fun i hi => hcc _ (by unfold sk; split <;> omega)
    obtain ⟨y, hy⟩ : ∃ y, dgM z (f' k) (c j) = z k * y := by
     unfold dgM
     split
     ·by_cases e : k = f' k
      ·exact ⟨1, by rw [← e, Int.mul_one]⟩
      ·obtain ⟨p, hp⟩ := hc k (f' k) (by omega) (hf' k (by omega))
       exact ⟨p, by rw [hp, Int.mul_comm]⟩
     ·exact ⟨0, by rw [Int.mul_zero]⟩
    rw [hx, hy]
    exact ⟨sgnN (k + j) * y * x, by show _ = prodN k z * z k * _; ac_rfl⟩
   by_cases e : a = k
   ·subst e
    exact main f hf hfa
   ·have h1 := main (fun i => f (sw a k i)) (fun i hi => hf _ (by unfold sw; split <;> (try split) <;> omega)) (by show k ≤ f (sw a k k); unfold sw; rw [if_neg (Ne.symm e), if_pos rfl]; exact hfa)
    have h2 : det (k + 1) (fun i b => dgM z (f (sw a k i)) (c b)) = - det (k + 1) (fun i b => dgM z (f i) (c b)) := by
     rw [← det_swap (k + 1) _ a k (by omega) (by omega)]
     exact det_congr fun i b _ _ => by rw [swapRows_sw]
    rw [h2] at h1
    exact Int.dvd_neg.1 h1
  ·obtain ⟨i, l, h1, h2, h3⟩ := pigeon k f fun i hi => by
    rcases Nat.lt_or_ge (f i) k with h | h
    ·exact h
    ·exact absurd ⟨i, hi, h⟩ hex
   rw [det_alt (k + 1) _ i l h1 (by omega) fun b => by rw [h3]]
   exact Int.dvd_zero _

end

theorem prod_same {r : Nat} {y z : Nat → Int} (py : ∀ i, i < r → 0 < y i) (h : ∀ k, k ≤ r → prodN k y = prodN k z) : ∀ i, i < r → y i = z i := fun i hi => by
 have h1 := h i (by omega); have h2 := h (i + 1) (by omega)
 rw [prodN, prodN, ← h1] at h2
 have h3 := prodN_pos i y fun j hj => py j (by omega)
 exact Int.eq_of_mul_eq_mul_left (by omega) h2

theorem dv_alike {k n : Nat} {g : Int} {F G : List (List Int)} (hF : ∀ u ∈ F, u.length = n) (a : Alikes n (InL F) (InL G)) (h : Dv k G.length n (ent G) g) : Dv k F.length n (ent F) g := by
 obtain ⟨C, hC⟩ := rows_coef (r := F.length) (n := n) (mm := G.length) (H := ent F) (M := ent G) fun i hi => by
  have hm : F.getD i [] ∈ F := getD_mem hi
  exact lat_inL ((a _).1 (.base hm (hF _ hm)))
 exact h.left (T := C) fun x y hx hy => hC x y hx hy

theorem ent_colsL {ms : List (List Int)} {n j b : Nat} (hj : j < n) (hb : b < ms.length) : ent (colsL ms n) j b = ent ms b j := by
 unfold ent
 rw [colsL_get ms n j hj, map_getD0 ms (fun r => r.getD j 0) b hb]

theorem dv_cols {k n : Nat} {g : Int} {ms : List (List Int)} : Dv k ms.length n (ent ms) g ↔ Dv k n ms.length (ent (colsL ms n)) g :=
 ⟨fun h => h.tr.congr fun _ _ hi hj => ent_colsL hi hj, fun h => h.tr.congr fun _ _ hi hj => (ent_colsL hj hi).symm⟩

theorem smith_dv {n : Nat} {ms hs fs : List (List Int)} {p : Nat → Nat} {ys : List Int} {D : Int} (F : FormL n hs p) (a : Alikes n (InL hs) (InL ms)) (hm : ∀ u ∈ ms, u.length = n) (T : TurnF n hs fs) (C : ChI hs.length ys D (ent fs) hs.length (hs.length + 1)) (k : Nat) (g : Int) :
  Dv k ms.length n (ent ms) g ↔ Dv k ys.length ys.length (dgM fun i => ys.getD i 0) g := by
 rw [C.len]
 constructor
 ·intro h
  have h1 := dv_cols.1 (dv_alike F.len a h)
  have h2 : Dv k (colsL hs n).length hs.length (ent (colsL hs n)) g := by rw [colsL_length]; exact h1
  have h3 := dv_alike T.lens T.alike h2
  rw [T.len] at h3
  exact h3.equ C.rel
 ·intro h
  have h1 := h.equ C.rel.symm
  have h2 : Dv k fs.length hs.length (ent fs) g := by rw [T.len]; exact h1
  have h3 := dv_alike (colsL_len hs n) T.alike.symm h2
  rw [colsL_length] at h3
  exact dv_alike hm a.symm (dv_cols.2 h3)

end Go.Proofs.YtdedolkgcdlmeaaGreatDoor

/- Determinants of rows and places that rise are enough; which choices there are. No Go in it. -/
namespace Go.Proofs.YtdedolkgcdlmeaaGreatDoor
open Go.RowKit Limbs

def Inc (k m : Nat) (f : Nat → Nat) : Prop := (∀ i, i + 1 < k → f i < f (i + 1)) ∧ ∀ i, i < k → f i < m

def muF (k : Nat) (f : Nat → Nat) : Int := sumN k (fun i => ((k - i : Nat) : Int) * (f i : Int))

theorem sumN_nonneg (n : Nat) (f : Nat → Int) (h : ∀ i, i < n → 0 ≤ f i) : 0 ≤ sumN n f := by
 induction n with
 | zero => exact Int.le_refl 0
 | succ n ih => have h1 := ih fun i hi => h i (by omega); have h2 := h n (by omega); rw [sumN]; omega

theorem muF_nonneg (k : Nat) (f : Nat → Nat) : 0 ≤ muF k f := sumN_nonneg k _ fun _ _ => Int.mul_nonneg (Int.natCast_nonneg _) (Int.natCast_nonneg _)

theorem muF_swap {k i : Nat} {f : Nat → Nat} (hi : i + 1 < k) (h : f (i + 1) < f i) : muF k (fun a => f (sw i (i + 1) a)) < muF k f := by
 have e1 : muF k (fun a => f (sw i (i + 1) a)) + - muF k f = sumN k (fun a => ((k - a : Nat) : Int) * (f (sw i (i + 1) a) : Int) + - (((k - a : Nat) : Int) * (f a : Int))) := by
  unfold muF
  rw [← sumN_neg, ← sumN_add]
 have e2 := sumN_two k i (i + 1) (by omega) hi (fun a => ((k - a : Nat) : Int) * (f (sw i (i + 1) a) : Int) + - (((k - a : Nat) : Int) * (f a : Int))) fun a _ h1 h2 => by
  have : sw i (i + 1) a = a := by unfold sw; rw [if_neg h1, if_neg h2]
  rw [this]; omega
 have s1 : sw i (i + 1) i = i + 1 := by unfold sw; rw [if_pos rfl]
 have s2 : sw i (i + 1) (i + 1) = i := by unfold sw; rw [if_neg (by omega), if_pos rfl]
 rw [s1, s2] at e2
 obtain ⟨q, hq⟩ : ∃ q : Nat, k - i = q + 1 := ⟨k - i - 1, by omega⟩
 have hq2 : k - (i + 1) = q := by omega
 rw [hq, hq2, Int.natCast_add, Int.add_mul, Int.add_mul] at e2
 omega

theorem sort_rows {k m : Nat} {A : Nat → Nat → Int} {x : Int} (h : ∀ f, Inc k m f → x ∣ det k (fun a b => A (f a) b)) : ∀ (N : Nat) (f : Nat → Nat), muF k f < N → (∀ i, i < k → f i < m) → x ∣ det k (fun a b => A (f a) b) := fun N => by
 induction N with
 | zero => intro f hN _; have := muF_nonneg k f; omega
 | succ N ih =>
  intro f hN hf
  by_cases h1 : ∃ i, i + 1 < k ∧ f (i + 1) < f i
  ·obtain ⟨i, hi, hlt⟩ := h1
   have h2 := ih (fun a => f (sw i (i + 1) a)) (by have := muF_swap hi hlt; omega) fun a ha => hf _ (by unfold sw; split <;> (try split) <;> omega)
   have e : det k (fun a b => A (f (sw i (i + 1) a)) b) = - det k (fun a b => A (f a) b) := by
    rw [← det_swap k _ i (i + 1) (by omega) hi]
    exact det_congr fun a b _ _ => by rw [swapRows_sw]
   rw [e] at h2
   exact Int.dvd_neg.1 h2
  ·by_cases h2 : ∃ i, i + 1 < k ∧ f i = f (i + 1)
   ·obtain ⟨i, hi, e⟩ := h2
    rw [det_alt k _ i (i + 1) (by omega) hi fun b => by rw [e]]
    exact Int.dvd_zero x
   ·exact h f ⟨fun i hi => by
     rcases Nat.lt_trichotomy (f i) (f (i + 1)) with q | q | q
     ·exact q
     ·exact absurd ⟨i, hi, q⟩ h2
     ·exact absurd ⟨i, hi, q⟩ h1, hf⟩

theorem dv_sorted {k m n : Nat} {A : Nat → Nat → Int} {x : Int} (h : ∀ f c, Inc k m f → Inc k n c → x ∣ det k (fun a b => A (f a) (c b))) : Dv k m n A x := fun f c hf hc => by
 refine sort_rows (A := fun a b => A a (c b)) (fun f' hf' => ?_) ((muF k f).toNat + 1) f (by have := muF_nonneg k f; omega) hf
 have e : ∀ c' : Nat → Nat, det k (fun a b => A (f' a) (c' b)) = det k (fun a b => A (f' b) (c' a)) := fun c' => (det_tr k (fun a b => A (f' a) (c' b))).symm
 rw [e]
 refine sort_rows (A := fun a b => A (f' b) a) (fun c' hc' => ?_) ((muF k c).toNat + 1) c (by have := muF_nonneg k c; omega) hc
 rw [← e]
 exact h f' c' hf' hc'

def bitsL (m b : Nat) : List Nat := (List.range m).filter fun i => b / 2 ^ i % 2 == 1

def chooseL (k m : Nat) : List (List Nat) := ((List.range (2 ^ m)).map (bitsL m)).filter fun l => l.length == k

def incB : List Nat → Bool
 | a :: b :: t => decide (a < b) && incB (b :: t)
 | _ => true

def listsL (m : Nat) : Nat → List (List Nat)
 | 0 => [[]]
 | k + 1 => (List.range m).flatMap fun a => (listsL m k).map fun l => a :: l

theorem mem_listsL (m : Nat) : ∀ (l : List Nat), (∀ a ∈ l, a < m) → l ∈ listsL m l.length := fun l => by
 induction l with
 | nil => intro _; exact List.mem_singleton.2 rfl
 | cons a t ih => intro h; exact List.mem_flatMap.2 ⟨a, List.mem_range.2 (h a (List.mem_cons_self ..)), List.mem_map.2 ⟨t, ih fun b hb => h b (List.mem_cons_of_mem _ hb), rfl⟩⟩

theorem choose_all : ∀ m, m < 5 → ∀ k, k < 5 → (listsL m k).all (fun l => !(incB l) || (chooseL k m).contains l) = true ∧ (chooseL k m).all (fun l => incB l && decide (l.length = k) && l.all fun a => decide (a < m)) = true := by decide +kernel

theorem incB_of (f : Nat → Nat) : ∀ (n s : Nat), (∀ i, s ≤ i → i + 1 < s + n → f i < f (i + 1)) → incB ((List.range' s n).map f) = true
 | 0, _, _ => rfl
 | 1, _, _ => rfl
 | n + 2, s, h => by
  show (decide (f s < f (s + 1)) && incB ((List.range' (s + 1) (n + 1)).map f)) = true
  rw [Bool.and_eq_true]
  exact ⟨decide_eq_true (h s (Nat.le_refl s) (by omega)), incB_of f (n + 1) (s + 1) fun i h1 h2 => h i (by omega) (by omega)⟩

theorem inc_mem {k m : Nat} (hm : m < 5) (hk : k < 5) {f : Nat → Nat} (h : Inc k m f) : (List.range k).map f ∈ chooseL k m := by
 have h1 := (choose_all m hm k hk).1
 have hmem : (List.range k).map f ∈ listsL m k := by
  have := mem_listsL m ((List.range k).map f) fun a ha => by
   obtain ⟨i, hi, rfl⟩ := List.mem_map.1 ha
   exact h.2 i (List.mem_range.1 hi)
  rwa [List.length_map, List.length_range] at this
 have h2 := List.all_eq_true.1 h1 _ hmem
 have h3 : incB ((List.range k).map f) = true := by
  rw [List.range_eq_range']
  exact incB_of f k 0 fun i _ h5 => h.1 i (by omega)
 rw [h3] at h2
 simpa using h2

theorem incB_get : ∀ (l : List Nat), incB l = true → ∀ i, i + 1 < l.length → l.getD i 0 < l.getD (i + 1) 0
 | [], _, i, h => absurd h (Nat.not_lt_zero _)
 | [a], _, i, h => absurd h (by simp)
 | a :: b :: t, hl, i, h => by
  have h1 : decide (a < b) = true ∧ incB (b :: t) = true := by
   have : (decide (a < b) && incB (b :: t)) = true := hl
   rwa [Bool.and_eq_true] at this
  cases i with
  | zero => exact of_decide_eq_true h1.1
  | succ i => exact incB_get (b :: t) h1.2 i (by simpa using h)

theorem mem_inc {k m : Nat} (hm : m < 5) (hk : k < 5) {l : List Nat} (h : l ∈ chooseL k m) : l.length = k ∧ Inc k m (fun i => l.getD i 0) := by
 have h1 := List.all_eq_true.1 (choose_all m hm k hk).2 l h
 rw [Bool.and_eq_true, Bool.and_eq_true] at h1
 obtain ⟨⟨h2, h3⟩, h4⟩ := h1
 have hl := of_decide_eq_true h3
 refine ⟨hl, fun i hi => incB_get l h2 i (by omega), fun i hi => ?_⟩
 have h5 : i < l.length := by omega
 have h6 := List.all_eq_true.1 h4 (l[i]) (List.getElem_mem h5)
 show l.getD i 0 < m
 rw [List.getD_eq_getElem?_getD, List.getElem?_eq_getElem h5]
 exact of_decide_eq_true h6

def subL (ms : List (List Int)) (k : Nat) (r c : List Nat) : List (List Int) := (List.range k).map fun a => (List.range k).map fun b => ent ms (r.getD a 0) (c.getD b 0)

theorem subL_ent (ms : List (List Int)) (k : Nat) (r c : List Nat) (a b : Nat) (ha : a < k) (hb : b < k) : ent (subL ms k r c) a b = ent ms (r.getD a 0) (c.getD b 0) := by
 unfold subL
 show (((List.range k).map fun a => (List.range k).map fun b => ent ms (r.getD a 0) (c.getD b 0)).getD a []).getD b 0 = _
 rw [List.getD_eq_getElem?_getD (l := (List.range k).map _), List.getElem?_map, List.getElem?_range ha]
 exact range_getD k _ b hb

theorem dv_choose {k m n : Nat} (hm : m < 5) (hn : n < 5) (hk : k < 5) {ms : List (List Int)} {x : Int} (h : ∀ r ∈ chooseL k m, ∀ c ∈ chooseL k n, x ∣ det k (ent (subL ms k r c))) : Dv k m n (ent ms) x := dv_sorted fun f c hf hc => by
 have h1 := h _ (inc_mem hm hk hf) _ (inc_mem hn hk hc)
 have e : det k (ent (subL ms k ((List.range k).map f) ((List.range k).map c))) = det k (fun a b => ent ms (f a) (c b)) := det_congr fun a b ha hb => by
  rw [subL_ent ms k _ _ a b ha hb]
  have g : ∀ (q : Nat → Nat) (i : Nat), i < k → ((List.range k).map q).getD i 0 = q i := fun q i hi => by
   rw [List.getD_eq_getElem?_getD, List.getElem?_map, List.getElem?_range hi]; rfl
  rw [g f a ha, g c b hb]
 rwa [e] at h1

theorem choose_dv {k m n : Nat} (hm : m < 5) (hn : n < 5) (hk : k < 5) {ms : List (List Int)} {x : Int} (h : Dv k m n (ent ms) x) : ∀ r ∈ chooseL k m, ∀ c ∈ chooseL k n, x ∣ det k (ent (subL ms k r c)) := fun r hr c hc => by
 rw [det_congr fun a b ha hb => subL_ent ms k r c a b ha hb]
 exact h (fun a => r.getD a 0) (fun b => c.getD b 0) (mem_inc hm hk hr).2.2 (mem_inc hn hk hc).2.2

end Go.Proofs.YtdedolkgcdlmeaaGreatDoor
