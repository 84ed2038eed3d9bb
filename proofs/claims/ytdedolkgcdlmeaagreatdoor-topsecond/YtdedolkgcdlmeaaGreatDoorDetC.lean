/- A bound on rows in the one form, by determinants. No Go in it. -/
import Derived.Test.YtdedolkgcdlmeaaGreatDoorDetB
namespace Go.Proofs.YtdedolkgcdlmeaaGreatDoor

def absI (z : Int) : Int := if z < 0 then -z else z

theorem absI_nonneg (z : Int) : 0 ≤ absI z := by unfold absI; split <;> omega
theorem absI_add (x y : Int) : absI (x + y) ≤ absI x + absI y := by unfold absI; repeat' split; all_goals omega
theorem absI_neg (x : Int) : absI (-x) = absI x := by unfold absI; repeat' split; all_goals omega
theorem absI_of_nonneg {x : Int} (h : 0 ≤ x) : absI x = x := by unfold absI; rw [if_neg (by omega)]
theorem absI_zero {x : Int} : absI x = 0 ↔ x = 0 := by unfold absI; split <;> omega

theorem absI_mul (x y : Int) : absI (x * y) = absI x * absI y := by
  have key : ∀ a b : Int, 0 ≤ a → 0 ≤ b → absI (a * b) = absI a * absI b := fun a b ha hb => by
    rw [absI_of_nonneg ha, absI_of_nonneg hb, absI_of_nonneg (Int.mul_nonneg ha hb)]
  rcases (by omega : 0 ≤ x ∨ 0 ≤ -x) with hx | hx <;> rcases (by omega : 0 ≤ y ∨ 0 ≤ -y) with hy | hy
  · exact key x y hx hy
  · have := key x (-y) hx hy; rwa [Int.mul_neg, absI_neg, absI_neg] at this
  · have := key (-x) y hx hy; rwa [Int.neg_mul, absI_neg, absI_neg] at this
  · have := key (-x) (-y) hx hy; rwa [Int.neg_mul_neg, absI_neg, absI_neg] at this

theorem absI_sgn (k : Nat) : absI (sgnN k) = 1 := by unfold sgnN absI; split <;> rfl

theorem absI_sum (n : Nat) (f : Nat → Int) (C : Int) (h : ∀ i, i < n → absI (f i) ≤ C) : absI (sumN n f) ≤ n * C := by
  induction n with
  | zero => simp [sumN, absI]
  | succ n ih =>
    have h1 := ih fun i hi => h i (by omega)
    have h2 := h n (by omega)
    have h3 := absI_add (sumN n f) (f n)
    have e : ((n + 1 : Nat) : Int) * C = n * C + C := by rw [Int.natCast_add, Int.add_mul]; simp
    rw [sumN, e]
    omega

/-- n! times the n-th power. -/
def facP : Nat → Int → Int
  | 0, _ => 1
  | n + 1, B => (n + 1 : Nat) * (B * facP n B)

theorem facP_nonneg (n : Nat) {B : Int} (hB : 0 ≤ B) : 0 ≤ facP n B := by
  induction n with
  | zero => exact (by decide : (0 : Int) ≤ 1)
  | succ n ih => exact Int.mul_nonneg (Int.natCast_nonneg _) (Int.mul_nonneg hB ih)

theorem det_le {n : Nat} : ∀ (M : Nat → Nat → Int) (B : Int), 0 ≤ B → (∀ a b, a < n → b < n → absI (M a b) ≤ B) → absI (det n M) ≤ facP n B := by
  induction n with
  | zero => intro M B _ _; exact (by decide : absI (1 : Int) ≤ 1)
  | succ n ih =>
    intro M B hB h
    rw [det]
    refine absI_sum (n + 1) _ (B * facP n B) fun j hj => ?_
    rw [absI_mul, absI_mul, absI_sgn, Int.one_mul]
    have h1 := h n j (by omega) hj
    have h2 := ih (fun a b => M a (sk j b)) B hB fun a b ha hb => h a _ (by omega) (by unfold sk; split <;> omega)
    exact Int.mul_le_mul h1 h2 (absI_nonneg _) hB

def prodN : Nat → (Nat → Int) → Int
  | 0, _ => 1
  | n + 1, d => prodN n d * d n

theorem prodN_pos (n : Nat) (d : Nat → Int) (h : ∀ i, i < n → 1 ≤ d i) : 1 ≤ prodN n d := by
  induction n with
  | zero => exact (by decide : (1 : Int) ≤ 1)
  | succ n ih =>
    have h1 := ih fun i hi => h i (by omega)
    have h2 := h n (by omega)
    have := Int.mul_le_mul h1 h2 (by decide) (by omega)
    simpa [prodN] using this

theorem prodN_ge (n : Nat) (d : Nat → Int) (h : ∀ i, i < n → 1 ≤ d i) (k : Nat) (hk : k < n) : d k ≤ prodN n d := by
  induction n with
  | zero => omega
  | succ n ih =>
    have h0 := prodN_pos n d fun i hi => h i (by omega)
    have h2 := h n (by omega)
    by_cases hkn : k = n
    · subst hkn
      have := Int.mul_le_mul h0 (Int.le_refl (d k)) (by omega) (by omega)
      simpa [prodN] using this
    · have h1 := ih (fun i hi => h i (by omega)) (by omega)
      have := Int.mul_le_mul h1 h2 (by decide) (by omega)
      simp only [Int.mul_one] at this
      exact this

/-- Rows with noughts ahead of the slope: what stands on it, multiplied. -/
theorem det_tri (n : Nat) (M : Nat → Nat → Int) (h : ∀ a b, a < n → b < a → M a b = 0) : det n M = prodN n (fun i => M i i) := by
  induction n with
  | zero => rfl
  | succ n ih =>
    rw [det, sumN_single (n + 1) n (by omega) _ fun j hj hne => by rw [h n j (by omega) (by omega), Int.mul_zero, Int.zero_mul]]
    have e : det n (fun a b => M a (sk n b)) = det n M := det_congr fun a b _ hb => by rw [sk_lt hb]
    rw [e, ih fun a b ha hb => h a b (by omega) hb]
    have : sgnN (n + n) = 1 := by unfold sgnN; rw [if_pos (by omega)]
    rw [this, Int.one_mul, prodN, Int.mul_comm]

theorem sumN_ne_zero (n : Nat) (f : Nat → Int) (h : sumN n f ≠ 0) : ∃ k, k < n ∧ f k ≠ 0 := by
  induction n with
  | zero => exact absurd rfl h
  | succ n ih =>
    by_cases hf : f n = 0
    · rw [sumN, hf, Int.add_zero] at h
      obtain ⟨k, hk, hne⟩ := ih h
      exact ⟨k, by omega, hne⟩
    · exact ⟨n, by omega, hf⟩

/-- Rows made of others: so many of the others are independent, too. -/
theorem choose_rows (r m : Nat) (H M C : Nat → Nat → Int) (hH : ∀ a b, a < r → b < r → H a b = sumN m (fun k => C a k * M k b)) (h0 : det r H ≠ 0) :
    ∀ q, q ≤ r → ∃ φ : Nat → Nat, (∀ a, a < q → φ a < m) ∧ det r (fun a b => if a < q then M (φ a) b else H a b) ≠ 0 := by
  intro q
  induction q with
  | zero =>
    intro _
    refine ⟨fun _ => 0, fun a h => by omega, ?_⟩
    have e : det r (fun a b => if a < 0 then M 0 b else H a b) = det r H := det_congr fun a b _ _ => if_neg (by omega)
    rw [e]; exact h0
  | succ q ih =>
    intro hq
    obtain ⟨φ, h1, h2⟩ := ih (by omega)
    let X : Nat → Nat → Int := fun a b => if a < q then M (φ a) b else H a b
    have e : det r X = det r (setRow X q (fun b => sumN m (fun k => C q k * M k b))) := det_congr fun a b ha hb => by
      by_cases haq : a = q
      · rw [haq, setRow_at]
        show (if q < q then _ else H q b) = _
        rw [if_neg (by omega)]
        exact hH q b (by omega) hb
      · rw [setRow_ne _ _ _ haq]
    have h3 : det r (setRow X q (fun b => sumN m (fun k => C q k * M k b))) ≠ 0 := by rw [← e]; exact h2
    rw [det_row_sum r X q (by omega)] at h3
    obtain ⟨k, hk, hne⟩ := sumN_ne_zero m _ h3
    refine ⟨fun a => if a = q then k else φ a, fun a ha => ?_, fun hz => hne ?_⟩
    · show (if a = q then k else φ a) < m
      split
      · exact hk
      · exact h1 a (by omega)
    · have e2 : det r (setRow X q (M k)) = det r (fun a b => if a < q + 1 then M (if a = q then k else φ a) b else H a b) := det_congr fun a b ha hb => by
        by_cases haq : a = q
        · rw [haq, setRow_at, if_pos (by omega), if_pos rfl]
        · rw [setRow_ne _ _ _ haq]
          show (if a < q then M (φ a) b else H a b) = _
          by_cases hlt : a < q
          · rw [if_pos hlt, if_pos (by omega), if_neg haq]
          · rw [if_neg hlt, if_neg (by omega)]
      rw [e2, hz, Int.mul_zero]

/-- There are no more of them than of those that they are made of. -/
theorem rank_le (r m n : Nat) (H M C : Nat → Nat → Int) (p : Nat → Nat) (hp : ∀ k, k < r → p k < n) (hzero : ∀ i k, i < r → k < i → H i (p k) = 0) (hpos : ∀ i, i < r → 1 ≤ H i (p i))
    (hHM : ∀ a b, a < r → b < n → H a b = sumN m (fun k => C a k * M k b)) : r ≤ m := by
  by_cases hrm : r ≤ m
  · exact hrm
  have hD : det r (fun a b => H a (p b)) = prodN r (fun k => H k (p k)) := det_tri r _ fun a b ha hb => hzero a b ha hb
  have hD1 := prodN_pos r (fun k => H k (p k)) hpos
  obtain ⟨φ, hφ, hne⟩ := choose_rows r m (fun a b => H a (p b)) (fun k b => M k (p b)) C (fun a b ha hb => hHM a (p b) ha (hp b hb)) (by rw [hD]; omega) r (Nat.le_refl _)
  obtain ⟨i, k, hik, hk, e⟩ := pigeon m φ fun i hi => hφ i (by omega)
  refine absurd (det_alt r _ i k hik (by omega) fun b => ?_) hne
  show (if i < r then M (φ i) (p b) else H i (p b)) = if k < r then M (φ k) (p b) else H k (p b)
  rw [if_pos (by omega), if_pos (by omega), e]

/-- The bound: rows in the one form are not much greater than minors of what they are made of. -/
theorem form_bound (r m n : Nat) (H M C T : Nat → Nat → Int) (p : Nat → Nat) (B : Int) (hB : 0 ≤ B)
    (hp : ∀ k, k < r → p k < n) (hzero : ∀ i k, i < r → k < i → H i (p k) = 0) (hpos : ∀ i, i < r → 1 ≤ H i (p i)) (hred : ∀ i k, i < r → k < r → i < k → 0 ≤ H i (p k) ∧ H i (p k) ≤ H k (p k))
    (hHM : ∀ a b, a < r → b < n → H a b = sumN m (fun k => C a k * M k b)) (hMH : ∀ a b, a < m → b < n → M a b = sumN r (fun k => T a k * H k b))
    (hM : ∀ a b, a < m → b < n → absI (M a b) ≤ B) (i j : Nat) (hi : i < r) (hj : j < n) : absI (H i j) ≤ r * facP r B := by
  have hD : det r (fun a b => H a (p b)) = prodN r (fun k => H k (p k)) := det_tri r _ fun a b ha hb => hzero a b ha hb
  have hD1 := prodN_pos r (fun k => H k (p k)) hpos
  obtain ⟨φ, hφ, hne⟩ := choose_rows r m (fun a b => H a (p b)) (fun k b => M k (p b)) C (fun a b ha hb => hHM a (p b) ha (hp b hb)) (by rw [hD]; omega) r (Nat.le_refl _)
  have hne' : det r (fun a b => M (φ a) (p b)) ≠ 0 := by
    intro h
    apply hne
    have e : det r (fun a b => if a < r then M (φ a) (p b) else H a (p b)) = det r (fun a b => M (φ a) (p b)) := det_congr fun a b ha _ => if_pos ha
    exact e.trans h
  have hmul : ∀ J : Nat → Nat, (∀ b, b < r → J b < n) → det r (fun a b => M (φ a) (J b)) = det r (fun a k => T (φ a) k) * det r (fun a b => H a (J b)) := fun J hJ => by
    rw [← det_mul]
    exact det_congr fun a b ha hb => hMH (φ a) (J b) (hφ a ha) (hJ b hb)
  have hT : det r (fun a k => T (φ a) k) ≠ 0 := fun h => hne' (by rw [hmul p hp, h, Int.zero_mul])
  have hmin : ∀ J : Nat → Nat, (∀ b, b < r → J b < n) → absI (det r (fun a b => H a (J b))) ≤ facP r B := fun J hJ => by
    have h1 := det_le (n := r) (fun a b => M (φ a) (J b)) B hB fun a b ha hb => hM (φ a) (J b) (hφ a ha) (hJ b hb)
    rw [hmul J hJ, absI_mul] at h1
    have h2 : 1 ≤ absI (det r (fun a k => T (φ a) k)) := by
      have := absI_nonneg (det r (fun a k => T (φ a) k))
      have h3 : absI (det r (fun a k => T (φ a) k)) ≠ 0 := fun h => hT (absI_zero.1 h)
      omega
    have h3 := Int.mul_le_mul h2 (Int.le_refl (absI (det r (fun a b => H a (J b))))) (absI_nonneg _) (by omega)
    omega
  -- the last row is one of the others
  let X : Nat → Nat → Int := fun a b => H (if a < r then a else i) (if b < r then p b else j)
  have hX : det (r + 1) X = 0 := det_alt (r + 1) X i r hi (by omega) fun b => by
    show H (if i < r then i else i) _ = H (if r < r then r else i) _
    rw [if_pos hi, if_neg (Nat.lt_irrefl r)]
  rw [det, sumN] at hX
  have hlast : X r r = H i j := by
    show H (if r < r then r else i) (if r < r then p r else j) = H i j
    rw [if_neg (Nat.lt_irrefl r), if_neg (Nat.lt_irrefl r)]
  have hm : det r (fun a b => X a (sk r b)) = prodN r (fun k => H k (p k)) := by
    rw [← hD]
    exact det_congr fun a b ha hb => by
      show H (if a < r then a else i) (if sk r b < r then p (sk r b) else j) = _
      rw [sk_lt hb, if_pos ha, if_pos hb]
  have hs : sgnN (r + r) = 1 := by unfold sgnN; rw [if_pos (by omega)]
  rw [hlast, hm, hs, Int.one_mul] at hX
  have hsum : absI (sumN r (fun k => sgnN (r + k) * X r k * det r (fun a b => X a (sk k b)))) ≤ r * (prodN r (fun k => H k (p k)) * facP r B) := by
    refine absI_sum r _ _ fun k hk => ?_
    rw [absI_mul, absI_mul, absI_sgn, Int.one_mul]
    have hXk : X r k = H i (p k) := by
      show H (if r < r then r else i) (if k < r then p k else j) = _
      rw [if_neg (by omega), if_pos hk]
    have h1 : absI (X r k) ≤ prodN r (fun k => H k (p k)) := by
      rw [hXk]
      have hg := prodN_ge r (fun k => H k (p k)) hpos k hk
      rcases Nat.lt_trichotomy i k with h | h | h
      · obtain ⟨h1, h2⟩ := hred i k hi hk h
        have hg' : H k (p k) ≤ prodN r (fun k => H k (p k)) := hg
        rw [absI_of_nonneg h1]; omega
      · subst h
        have := hpos i hi
        rw [absI_of_nonneg (by omega)]; exact hg
      · rw [hzero i k hi h]
        show (if (0 : Int) < 0 then -0 else 0) ≤ _
        rw [if_neg (by decide)]; omega
    have h2 : absI (det r (fun a b => X a (sk k b))) ≤ facP r B := by
      have e : det r (fun a b => X a (sk k b)) = det r (fun a b => H a (if sk k b < r then p (sk k b) else j)) := det_congr fun a b ha _ => by
        show H (if a < r then a else i) _ = _
        rw [if_pos ha]
      rw [e]
      exact hmin _ fun b _ => by
        show (if sk k b < r then p (sk k b) else j) < n
        split
        · rename_i h; exact hp _ h
        · exact hj
    exact Int.mul_le_mul h1 h2 (absI_nonneg _) (by omega)
  generalize sumN r (fun k => sgnN (r + k) * X r k * det r (fun a b => X a (sk k b))) = S at *
  generalize prodN r (fun k => H k (p k)) = D at *
  have h5 : absI (H i j * D) ≤ r * (D * facP r B) := by
    have : H i j * D = - S := by omega
    rw [this, absI_neg]; exact hsum
  rw [absI_mul, absI_of_nonneg (by omega : 0 ≤ D), ← Int.mul_assoc, Int.mul_comm (r : Int) D, Int.mul_assoc, Int.mul_comm _ D] at h5
  exact Int.le_of_mul_le_mul_left h5 (by omega)

end Go.Proofs.YtdedolkgcdlmeaaGreatDoor
