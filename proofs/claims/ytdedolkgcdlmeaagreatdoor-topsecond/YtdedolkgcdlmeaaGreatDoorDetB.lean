/- Determinants: of the unit rows; of products. No Go in it. -/
import Derived.Test.YtdedolkgcdlmeaaGreatDoorDetA
namespace Go.Proofs.YtdedolkgcdlmeaaGreatDoor

/-- The unit row. -/
def unitR (k : Nat) : Nat → Int := fun b => if b = k then 1 else 0

def mulM (n : Nat) (T H : Nat → Nat → Int) : Nat → Nat → Int := fun a b => sumN n (fun k => T a k * H k b)

theorem sumN_single (n k : Nat) (hk : k < n) (f : Nat → Int) (h : ∀ i, i < n → i ≠ k → f i = 0) : sumN n f = f k := by
  induction n with
  | zero => omega
  | succ n ih =>
    by_cases hkn : k = n
    · subst hkn
      rw [sumN, sumN_congr (g := fun _ => 0) fun i hi => h i (by omega) (by omega), sumN_zero]; omega
    · rw [sumN, ih (by omega) fun i hi hne => h i (by omega) hne, h n (by omega) (by omega)]; omega

theorem det_row_zero (n : Nat) (M : Nat → Nat → Int) (i : Nat) (hi : i < n) : det n (setRow M i (fun _ => 0)) = 0 := by
  have h := det_lin M i (fun _ => 0) (fun _ => 0) 0 0 hi
  have e : (fun b : Nat => (0 : Int) * (fun _ => (0 : Int)) b + 0 * (fun _ => (0 : Int)) b) = fun _ => 0 := by funext b; simp
  rw [e] at h
  simpa using h

theorem det_row_sum (n : Nat) (M : Nat → Nat → Int) (i : Nat) (hi : i < n) (m : Nat) (c : Nat → Int) (v : Nat → Nat → Int) :
    det n (setRow M i (fun b => sumN m (fun k => c k * v k b))) = sumN m (fun k => c k * det n (setRow M i (v k))) := by
  induction m with
  | zero => rw [sumN]; exact det_row_zero n M i hi
  | succ m ih =>
    have e : (fun b => sumN (m + 1) (fun k => c k * v k b)) = fun b => 1 * (fun b => sumN m (fun k => c k * v k b)) b + c m * (v m) b := by
      funext b; rw [sumN]; simp
    rw [e, det_lin M i _ (v m) 1 (c m) hi, ih, sumN]; omega

theorem det_unit (n : Nat) : det n (fun a b => unitR a b) = 1 := by
  induction n with
  | zero => rfl
  | succ n ih =>
    rw [det, sumN_single (n + 1) n (by omega) _ fun j hj hne => by
      show sgnN (n + j) * (if j = n then 1 else 0) * _ = 0
      rw [if_neg hne, Int.mul_zero, Int.zero_mul]]
    have e : det n (fun a b => unitR a (sk n b)) = det n (fun a b => unitR a b) := det_congr fun a b _ hb => by rw [sk_lt hb]
    rw [e, ih]
    show sgnN (n + n) * (if n = n then 1 else 0) * 1 = 1
    rw [if_pos rfl]
    have : sgnN (n + n) = 1 := by unfold sgnN; rw [if_pos (by omega)]
    rw [this]; rfl

/-- Fewer values than places: two are the same. -/
theorem pigeon : ∀ (m : Nat) (f : Nat → Nat), (∀ i, i ≤ m → f i < m) → ∃ i k, i < k ∧ k ≤ m ∧ f i = f k := by
  intro m
  induction m with
  | zero => intro f h; exact absurd (h 0 (by omega)) (by omega)
  | succ m ih =>
    intro f h
    by_cases hex : ∃ i, i ≤ m ∧ f i = f (m + 1)
    · obtain ⟨i, hi, e⟩ := hex
      exact ⟨i, m + 1, by omega, by omega, e⟩
    · have hne : ∀ i, i ≤ m → f i ≠ f (m + 1) := fun i hi e => hex ⟨i, hi, e⟩
      have hlast := h (m + 1) (by omega)
      obtain ⟨i, k, hik, hk, e⟩ := ih (fun i => if f i < f (m + 1) then f i else f i - 1) fun i hi => by
        have h1 := h i (by omega)
        have h2 := hne i hi
        show (if f i < f (m + 1) then f i else f i - 1) < m
        split <;> omega
      refine ⟨i, k, hik, by omega, ?_⟩
      have h1 := hne i (by omega)
      have h2 := hne k (by omega)
      split at e <;> split at e <;> omega

/-- Rows chosen: as the unit rows so chosen. -/
theorem det_choose (n : Nat) (H : Nat → Nat → Int) : ∀ (m : Nat), m ≤ n → ∀ φ : Nat → Nat, (∀ i, i < n → φ i < n) → (∀ i, m ≤ i → i < n → φ i = i) → det n (fun a b => H (φ a) b) = det n (fun a b => unitR (φ a) b) * det n H := by
  intro m
  induction m with
  | zero =>
    intro _ φ _ h
    have e1 : det n (fun a b => H (φ a) b) = det n H := det_congr fun a b ha _ => by rw [h a (by omega) ha]
    have e2 : det n (fun a b => unitR (φ a) b) = det n (fun a b => unitR a b) := det_congr fun a b ha _ => by rw [h a (by omega) ha]
    rw [e1, e2, det_unit]; omega
  | succ m ih =>
    intro hm φ hlt h
    have zero : ∀ i k, i < k → k < n → φ i = φ k → det n (fun a b => H (φ a) b) = det n (fun a b => unitR (φ a) b) * det n H := fun i k hik hk e => by
      rw [det_alt n (fun a b => H (φ a) b) i k hik hk fun b => by rw [e], det_alt n (fun a b => unitR (φ a) b) i k hik hk fun b => by rw [e], Int.zero_mul]
    by_cases hmm : φ m = m
    · exact ih (by omega) φ hlt fun i h1 h2 => by
        by_cases hi : i = m
        · rw [hi]; exact hmm
        · exact h i (by omega) h2
    · by_cases hbig : m < φ m
      · exact zero m (φ m) hbig (hlt m (by omega)) (h (φ m) (by omega) (hlt m (by omega))).symm
      · by_cases hex : ∃ i, i < m ∧ φ i = m
        · obtain ⟨i, him, hi⟩ := hex
          have hsw := ih (by omega) (fun a => if a = i then φ m else if a = m then φ i else φ a) (fun a ha => by
            show (if a = i then φ m else if a = m then φ i else φ a) < n
            split
            · exact hlt m (by omega)
            · split
              · exact hlt i (by omega)
              · exact hlt a ha) (fun a h1 h2 => by
            show (if a = i then φ m else if a = m then φ i else φ a) = a
            rw [if_neg (by omega)]
            split
            · rename_i e; rw [e]; exact hi
            · exact h a (by omega) h2)
          have e : ∀ G : Nat → Nat → Int, (fun a b => G (if a = i then φ m else if a = m then φ i else φ a) b) = swapRows (fun a b => G (φ a) b) i m := fun G => by
            funext a b
            unfold swapRows
            split
            · rfl
            · split <;> rfl
          rw [e H, e (fun a b => unitR a b), det_swap n _ i m him (by omega), det_swap n _ i m him (by omega), Int.neg_mul] at hsw
          have e2 : det n (fun a b => (fun a b => unitR a b) (φ a) b) = det n (fun a b => unitR (φ a) b) := rfl
          rw [e2] at hsw
          omega
        · have hsmall : (∀ i, i ≤ m → φ i < m) ∨ ∃ i, i ≤ m ∧ m < φ i := by
            by_cases hx : ∃ i, i ≤ m ∧ m < φ i
            · exact .inr hx
            · refine .inl fun i hi => ?_
              have h1 : ¬ m < φ i := fun hx' => hx ⟨i, hi, hx'⟩
              have h2 : φ i ≠ m := fun e => by
                by_cases hi' : i = m
                · exact hmm (hi' ▸ e)
                · exact hex ⟨i, by omega, e⟩
              omega
          rcases hsmall with hs | ⟨i, hi, hx⟩
          · obtain ⟨i, k, hik, hk, e⟩ := pigeon m φ hs
            exact zero i k hik (by omega) e
          · exact zero i (φ i) (by omega) (hlt i (by omega)) (h (φ i) (by omega) (hlt i (by omega))).symm

theorem unit_mul (n k : Nat) (hk : k < n) (H : Nat → Nat → Int) (b : Nat) : sumN n (fun q => unitR k q * H q b) = H k b := by
  rw [sumN_single n k hk _ fun i _ hne => by show (if i = k then 1 else 0) * _ = 0; rw [if_neg hne, Int.zero_mul]]
  show (if k = k then 1 else 0) * _ = _
  rw [if_pos rfl, Int.one_mul]

theorem sum_unit (n : Nat) (c : Nat → Int) (b : Nat) (hb : b < n) : sumN n (fun k => c k * unitR k b) = c b := by
  rw [sumN_single n b hb _ fun i _ hne => by show c i * (if b = i then 1 else 0) = 0; rw [if_neg (by omega), Int.mul_zero]]
  show c b * (if b = b then 1 else 0) = c b
  rw [if_pos rfl, Int.mul_one]

theorem det_mul_aux (n : Nat) (H : Nat → Nat → Int) : ∀ q, q ≤ n → ∀ (T : Nat → Nat → Int) (φ : Nat → Nat), (∀ i, i < n → φ i < n) → (∀ i, q ≤ i → i < n → ∀ b, T i b = unitR (φ i) b) → det n (mulM n T H) = det n T * det n H := by
  intro q
  induction q with
  | zero =>
    intro _ T φ hφ h
    have e1 : det n (mulM n T H) = det n (fun a b => H (φ a) b) := det_congr fun a b ha _ => by
      show sumN n (fun k => T a k * H k b) = _
      rw [sumN_congr (g := fun k => unitR (φ a) k * H k b) fun k _ => by rw [h a (by omega) ha]]
      exact unit_mul n (φ a) (hφ a ha) H b
    have e2 : det n T = det n (fun a b => unitR (φ a) b) := det_congr fun a b ha _ => h a (by omega) ha b
    rw [e1, e2]
    exact det_choose n H n (Nat.le_refl _) φ hφ fun i h1 h2 => by omega
  | succ q ih =>
    intro hq T φ hφ h
    have hqn : q < n := by omega
    have e1 : det n (mulM n T H) = sumN n (fun k => T q k * det n (mulM n (setRow T q (unitR k)) H)) := by
      have e : mulM n T H = setRow (mulM n T H) q (fun b => sumN n (fun k => T q k * H k b)) := (setRow_self (mulM n T H) q).symm
      rw [e, det_row_sum n _ q hqn]
      apply sumN_congr
      intro k hk
      congr 1
      apply det_congr
      intro a b ha hb
      by_cases haq : a = q
      · rw [haq, setRow_at]
        show H k b = sumN n (fun j => setRow T q (unitR k) q j * H j b)
        rw [sumN_congr (g := fun j => unitR k j * H j b) fun j _ => by rw [setRow_at], unit_mul n k hk]
      · rw [setRow_ne _ _ _ haq]
        show sumN n (fun j => T a j * H j b) = sumN n (fun j => setRow T q (unitR k) a j * H j b)
        exact sumN_congr fun j _ => by rw [setRow_ne _ _ _ haq]
    have e2 : det n T = sumN n (fun k => T q k * det n (setRow T q (unitR k))) := by
      have e : det n T = det n (setRow T q (fun b => sumN n (fun k => T q k * unitR k b))) := det_congr fun a b ha hb => by
        by_cases haq : a = q
        · rw [haq, setRow_at, sum_unit n _ b hb]
        · rw [setRow_ne _ _ _ haq]
      rw [e, det_row_sum n _ q hqn]
    rw [e1, e2, Int.mul_comm, ← sumN_mul]
    apply sumN_congr
    intro k hk
    rw [ih (by omega) (setRow T q (unitR k)) (fun i => if i = q then k else φ i) (fun i hi => by
      show (if i = q then k else φ i) < n
      split
      · exact hk
      · exact hφ i hi) (fun i h1 h2 b => by
      by_cases hiq : i = q
      · rw [hiq, setRow_at, if_pos rfl]
      · rw [setRow_ne _ _ _ hiq, if_neg hiq]; exact h i (by omega) h2 b)]
    rw [← Int.mul_assoc, Int.mul_comm (det n H)]

/-- Of a product it is the product. -/
theorem det_mul (n : Nat) (T H : Nat → Nat → Int) : det n (mulM n T H) = det n T * det n H :=
  det_mul_aux n H n (Nat.le_refl _) T (fun _ => 0) (fun i hi => by omega) (fun i h1 h2 => by omega)

end Go.Proofs.YtdedolkgcdlmeaaGreatDoor
