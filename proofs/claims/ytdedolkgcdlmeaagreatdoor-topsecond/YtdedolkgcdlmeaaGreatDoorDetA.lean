/- Determinants: sums, the development by the last row, linear in each row, nought where two rows are the same. No Go in it. -/
import Derived.Test.YtdedolkgcdlmeaaGreatDoorLimbs
namespace Go.Proofs.YtdedolkgcdlmeaaGreatDoor

def sumN : Nat → (Nat → Int) → Int
  | 0, _ => 0
  | n + 1, f => sumN n f + f n

theorem sumN_congr {n : Nat} {f g : Nat → Int} (h : ∀ i, i < n → f i = g i) : sumN n f = sumN n g := by
  induction n with
  | zero => rfl
  | succ n ih => rw [sumN, sumN, ih fun i hi => h i (by omega), h n (by omega)]

theorem sumN_add (n : Nat) (f g : Nat → Int) : sumN n (fun i => f i + g i) = sumN n f + sumN n g := by
  induction n with
  | zero => rfl
  | succ n ih => rw [sumN, sumN, sumN, ih]; omega

theorem sumN_mul (n : Nat) (c : Int) (f : Nat → Int) : sumN n (fun i => c * f i) = c * sumN n f := by
  induction n with
  | zero => simp [sumN]
  | succ n ih => rw [sumN, sumN, ih, Int.mul_add]

theorem sumN_zero (n : Nat) : sumN n (fun _ => 0) = 0 := by
  induction n with
  | zero => rfl
  | succ n ih => rw [sumN, ih]; rfl

theorem sumN_neg (n : Nat) (f : Nat → Int) : sumN n (fun i => - f i) = - sumN n f := by
  induction n with
  | zero => rfl
  | succ n ih => rw [sumN, sumN, ih]; omega

theorem sumN_swap (n m : Nat) (f : Nat → Nat → Int) : sumN n (fun i => sumN m (fun j => f i j)) = sumN m (fun j => sumN n (fun i => f i j)) := by
  induction n with
  | zero => rw [sumN, ← sumN_zero m]; rfl
  | succ n ih => rw [sumN, ih, ← sumN_add]; rfl

/-- The columns but one. -/
def sk (j b : Nat) : Nat := if b < j then b else b + 1

theorem sk_lt {j b : Nat} (h : b < j) : sk j b = b := if_pos h
theorem sk_ge {j b : Nat} (h : ¬ b < j) : sk j b = b + 1 := if_neg h

theorem sumN_skip (g : Nat → Int) (m j : Nat) (hj : j ≤ m) : sumN m (fun k => g (sk j k)) = sumN (m + 1) (fun l => if l = j then 0 else g l) := by
  induction m with
  | zero =>
    obtain rfl : j = 0 := by omega
    simp [sumN]
  | succ m ih =>
    by_cases h : j = m + 1
    · subst h
      rw [sumN, sumN_congr (g := g) fun k hk => by rw [sk_lt (by omega)]]
      rw [sumN, if_pos rfl, sumN_congr (n := m + 1) (g := g) fun k hk => by rw [if_neg (by omega)]]
      rw [sumN, sk_lt (by omega)]; omega
    · have e : sumN (m + 1 + 1) (fun l => if l = j then 0 else g l) = sumN (m + 1) (fun l => if l = j then 0 else g l) + (if m + 1 = j then 0 else g (m + 1)) := rfl
      rw [e, sumN, ih (by omega), if_neg (by omega), sk_ge (by omega)]

/-- The sign of a place. -/
def sgnN (k : Nat) : Int := if k % 2 = 0 then 1 else -1

theorem sgnN_succ (k : Nat) : sgnN (k + 1) = - sgnN k := by
  unfold sgnN
  split <;> split <;> omega

theorem sgnN_mul (a b : Nat) : sgnN a * sgnN b = sgnN (a + b) := by
  unfold sgnN
  split <;> split <;> split <;> first | omega | rfl

def det : Nat → (Nat → Nat → Int) → Int
  | 0, _ => 1
  | n + 1, M => sumN (n + 1) (fun j => sgnN (n + j) * M n j * det n (fun a b => M a (sk j b)))

theorem det_congr {n : Nat} : ∀ {M M' : Nat → Nat → Int}, (∀ a b, a < n → b < n → M a b = M' a b) → det n M = det n M' := by
  induction n with
  | zero => intros; rfl
  | succ n ih =>
    intro M M' h
    rw [det, det]
    apply sumN_congr
    intro j hj
    rw [h n j (by omega) hj, ih (M := fun a b => M a (sk j b)) (M' := fun a b => M' a (sk j b)) fun a b ha hb => h a _ (by omega) (by unfold sk; split <;> omega)]

def setRow (M : Nat → Nat → Int) (i : Nat) (u : Nat → Int) : Nat → Nat → Int := fun a b => if a = i then u b else M a b

theorem setRow_self (M : Nat → Nat → Int) (i : Nat) : setRow M i (M i) = M := by
  funext a b
  unfold setRow
  split
  · rename_i h; rw [h]
  · rfl

theorem setRow_at (M : Nat → Nat → Int) (i : Nat) (u : Nat → Int) (b : Nat) : setRow M i u i b = u b := if_pos rfl
theorem setRow_ne (M : Nat → Nat → Int) (i : Nat) (u : Nat → Int) {a : Nat} (h : a ≠ i) (b : Nat) : setRow M i u a b = M a b := if_neg h

theorem det_lin {n : Nat} : ∀ (M : Nat → Nat → Int) (i : Nat) (u v : Nat → Int) (x y : Int), i < n → det n (setRow M i (fun b => x * u b + y * v b)) = x * det n (setRow M i u) + y * det n (setRow M i v) := by
  induction n with
  | zero => intro M i u v x y h; omega
  | succ n ih =>
    intro M i u v x y h
    rw [det, det, det, ← sumN_mul, ← sumN_mul, ← sumN_add]
    apply sumN_congr
    intro j hj
    by_cases hin : i = n
    · subst hin
      have e : ∀ w : Nat → Int, det i (fun a b => setRow M i w a (sk j b)) = det i (fun a b => M a (sk j b)) := fun w => det_congr fun a b ha hb => setRow_ne M i w (by omega) _
      rw [setRow_at, setRow_at, setRow_at, e, e, e]
      generalize det i (fun a b => M a (sk j b)) = d
      generalize sgnN (i + j) = s
      rw [Int.mul_add, Int.add_mul, ← Int.mul_assoc x, ← Int.mul_assoc y, ← Int.mul_assoc s, ← Int.mul_assoc s, Int.mul_comm s x, Int.mul_comm s y, Int.mul_assoc x s, Int.mul_assoc y s]
    · have e : ∀ w : Nat → Int, (fun a b => setRow M i w a (sk j b)) = setRow (fun a b => M a (sk j b)) i (fun b => w (sk j b)) := fun w => rfl
      have hn : ∀ w : Nat → Int, setRow M i w n j = M n j := fun w => setRow_ne M i w (by omega) _
      rw [hn, hn, hn, e, e, e, ih _ i (fun b => u (sk j b)) (fun b => v (sk j b)) x y (by omega)]
      generalize det n (setRow (fun a b => M a (sk j b)) i (fun b => u (sk j b))) = d1
      generalize det n (setRow (fun a b => M a (sk j b)) i (fun b => v (sk j b))) = d2
      generalize sgnN (n + j) * M n j = s
      rw [Int.mul_add, ← Int.mul_assoc, ← Int.mul_assoc, ← Int.mul_assoc, ← Int.mul_assoc, Int.mul_comm s x, Int.mul_comm s y]

/-- Two rows change places. -/
def swapRows (M : Nat → Nat → Int) (i k : Nat) : Nat → Nat → Int := fun a b => if a = i then M k b else if a = k then M i b else M a b

theorem setRow_comm (M : Nat → Nat → Int) {i k : Nat} (h : i ≠ k) (u v : Nat → Int) : setRow (setRow M i u) k v = setRow (setRow M k v) i u := by
  funext a b
  unfold setRow
  split <;> split <;> first | rfl | omega

theorem swap_of_alt {n : Nat} (halt : ∀ (M : Nat → Nat → Int) (i k : Nat), i < k → k < n → (∀ b, M i b = M k b) → det n M = 0) (M : Nat → Nat → Int) (i k : Nat) (hik : i < k) (hk : k < n) : det n (swapRows M i k) = - det n M := by
  let u := M i
  let v := M k
  let w : Nat → Int := fun b => 1 * u b + 1 * v b
  have hne : i ≠ k := by omega
  have h0 : det n (setRow (setRow M i w) k w) = 0 := halt _ i k hik hk fun b => by
    rw [setRow_at, setRow_ne _ _ _ hne, setRow_at]
  have z : ∀ x : Nat → Int, det n (setRow (setRow M i x) k x) = 0 := fun x => halt _ i k hik hk fun b => by
    rw [setRow_at, setRow_ne _ _ _ hne, setRow_at]
  have h1 : det n (setRow (setRow M i w) k w) = 1 * det n (setRow (setRow M i w) k u) + 1 * det n (setRow (setRow M i w) k v) := det_lin _ k u v 1 1 hk
  have h2 : ∀ x : Nat → Int, det n (setRow (setRow M i w) k x) = 1 * det n (setRow (setRow M i u) k x) + 1 * det n (setRow (setRow M i v) k x) := fun x => by
    rw [setRow_comm M hne w x, setRow_comm M hne u x, setRow_comm M hne v x]
    exact det_lin _ i u v 1 1 (by omega)
  rw [h2 u, h2 v, z u, z v] at h1
  have e1 : setRow (setRow M i u) k v = M := by
    funext a b
    unfold setRow
    split
    · rename_i h; rw [h]
    · split
      · rename_i h; rw [h]
      · rfl
  have e2 : setRow (setRow M i v) k u = swapRows M i k := by
    funext a b
    unfold setRow swapRows
    by_cases h1 : a = k
    · rw [if_pos h1, if_neg (by omega), if_pos h1]
    · rw [if_neg h1]
      by_cases h2 : a = i
      · rw [if_pos h2, if_pos h2]
      · rw [if_neg h2, if_neg h2, if_neg h1]
  rw [e1, e2] at h1
  omega

theorem sk_sk {j l : Nat} (h : l < j) (b : Nat) : sk j (sk l b) = sk l (sk (j - 1) b) := by
  unfold sk
  repeat' split
  all_goals omega

/-- The last two rows are the same. -/
theorem det_last_two (n : Nat) (M : Nat → Nat → Int) (h : ∀ b, M n b = M (n + 1) b) : det (n + 2) M = 0 := by
  let E : Nat → Nat → Int := fun j l => if l < j then det n (fun a b => M a (sk j (sk l b))) else det n (fun a b => M a (sk j (sk (l - 1) b)))
  let s : Nat → Nat → Int := fun j l => if l < j then sgnN (n + l) else sgnN (n + l - 1)
  let F : Nat → Nat → Int := fun j l => if l = j then 0 else sgnN (n + 1 + j) * M n j * (s j l * M n l * E j l)
  have hin : ∀ j, j < n + 2 → det (n + 1) (fun a b => M a (sk j b)) = sumN (n + 2) (fun l => if l = j then 0 else s j l * M n l * E j l) := fun j hj => by
    rw [← sumN_skip (fun l => s j l * M n l * E j l) (n + 1) j (by omega), det]
    apply sumN_congr
    intro k hk
    show sgnN (n + k) * M n (sk j k) * det n (fun a b => M a (sk j (sk k b))) = (if sk j k < j then sgnN (n + sk j k) else sgnN (n + sk j k - 1)) * M n (sk j k) * (if sk j k < j then det n (fun a b => M a (sk j (sk (sk j k) b))) else det n (fun a b => M a (sk j (sk (sk j k - 1) b))))
    by_cases hkj : k < j
    · rw [sk_lt hkj, if_pos hkj, if_pos hkj]
    · rw [sk_ge hkj, if_neg (by omega), if_neg (by omega)]
      rfl
  have htot : det (n + 2) M = sumN (n + 2) (fun j => sumN (n + 2) (fun l => F j l)) := by
    rw [det]
    apply sumN_congr
    intro j hj
    rw [hin j hj, ← sumN_mul]
    apply sumN_congr
    intro l hl
    show sgnN (n + 1 + j) * M (n + 1) j * (if l = j then 0 else s j l * M n l * E j l) = (if l = j then 0 else sgnN (n + 1 + j) * M n j * (s j l * M n l * E j l))
    rw [← h j]
    split
    · rw [Int.mul_zero]
    · rfl
  have hanti' : ∀ j l, l < j → F j l = - F l j := fun j l hlj => by
    have hE : E l j = E j l := by
      show (if j < l then _ else _) = (if l < j then _ else _)
      rw [if_neg (by omega), if_pos hlj]
      congr 1
      funext a b
      rw [sk_sk hlj]
    have hs1 : s j l = sgnN (n + l) := if_pos hlj
    have hs2 : s l j = sgnN (n + j - 1) := if_neg (by omega)
    show (if l = j then 0 else _) = - (if j = l then 0 else _)
    rw [if_neg (by omega), if_neg (by omega), hE, hs1, hs2]
    have e1 : sgnN (n + 1 + j) = - sgnN (n + j) := by rw [show n + 1 + j = (n + j) + 1 by omega, sgnN_succ]
    have e2 : sgnN (n + 1 + l) = - sgnN (n + l) := by rw [show n + 1 + l = (n + l) + 1 by omega, sgnN_succ]
    have e3 : sgnN (n + j) = - sgnN (n + j - 1) := by rw [← sgnN_succ, show n + j - 1 + 1 = n + j by omega]
    rw [e1, e2, e3]
    generalize sgnN (n + l) = p
    generalize sgnN (n + j - 1) = q
    generalize E j l = e
    generalize M n j = x
    generalize M n l = y
    simp only [Int.neg_mul, Int.neg_neg]
    rw [Int.mul_comm (q * x), Int.mul_comm (p * y) (q * x * e)]
    ac_rfl
  have hanti : ∀ j l, F j l = - F l j := fun j l => by
    rcases Nat.lt_trichotomy l j with h1 | h1 | h1
    · exact hanti' j l h1
    · subst h1
      show (if l = l then 0 else _) = - (if l = l then 0 else _)
      rw [if_pos rfl]; rfl
    · rw [hanti' l j h1]; omega
  have h2 : sumN (n + 2) (fun j => sumN (n + 2) (fun l => F j l)) = - sumN (n + 2) (fun j => sumN (n + 2) (fun l => F j l)) := by
    conv => lhs; rw [sumN_swap]
    rw [← sumN_neg]
    apply sumN_congr
    intro j _
    rw [← sumN_neg]
    apply sumN_congr
    intro l _
    exact hanti l j
  rw [htot]
  omega

theorem det_alt : ∀ (n : Nat) (M : Nat → Nat → Int) (i k : Nat), i < k → k < n → (∀ b, M i b = M k b) → det n M = 0 := by
  intro n
  induction n with
  | zero => intro M i k h1 h2; omega
  | succ n ih =>
    intro M i k hik hk h
    by_cases hkn : k < n
    · rw [det, ← sumN_zero (n + 1)]
      apply sumN_congr
      intro j hj
      rw [ih (fun a b => M a (sk j b)) i k hik hkn fun b => h _, Int.mul_zero]
    · obtain rfl : k = n := by omega
      obtain ⟨m, rfl⟩ : ∃ m, k = m + 1 := ⟨k - 1, by omega⟩
      by_cases him : i = m
      · subst him
        exact det_last_two i M h
      · have hsw : det (m + 1 + 1) (swapRows M i m) = - det (m + 1 + 1) M := by
          rw [det, det, ← sumN_neg]
          apply sumN_congr
          intro j hj
          have e1 : swapRows M i m (m + 1) j = M (m + 1) j := by
            unfold swapRows
            rw [if_neg (by omega), if_neg (by omega)]
          have e2 : (fun a b => swapRows M i m a (sk j b)) = swapRows (fun a b => M a (sk j b)) i m := rfl
          rw [e1, e2, swap_of_alt ih _ i m (by omega) (by omega), Int.mul_neg]
        have h0 : det (m + 1 + 1) (swapRows M i m) = 0 := det_last_two m _ fun b => by
          unfold swapRows
          rw [if_neg (by omega), if_pos rfl, if_neg (by omega), if_neg (by omega)]
          exact h b
        omega

theorem det_swap (n : Nat) (M : Nat → Nat → Int) (i k : Nat) (hik : i < k) (hk : k < n) : det n (swapRows M i k) = - det n M := swap_of_alt (det_alt n) M i k hik hk

end Go.Proofs.YtdedolkgcdlmeaaGreatDoor
