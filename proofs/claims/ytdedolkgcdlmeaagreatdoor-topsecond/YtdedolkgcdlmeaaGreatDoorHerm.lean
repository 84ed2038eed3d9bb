/- Rows in the one form: what they generate determines them. No Go in it. -/
import Derived.Test.YtdedolkgcdlmeaaGreatDoorDetC
namespace Go.Proofs.YtdedolkgcdlmeaaGreatDoor

/-- Rows in the one form: r of them, of n numbers, with their pivots' places. -/
structure Form (r n : Nat) (H : Nat → Nat → Int) (p : Nat → Nat) : Prop where
  inc : ∀ i k, i < k → k < r → p i < p k
  lt : ∀ i, i < r → p i < n
  zero : ∀ i b, i < r → b < p i → H i b = 0
  pos : ∀ i, i < r → 0 < H i (p i)
  red : ∀ i k, i < k → k < r → 0 ≤ H i (p k) ∧ H i (p k) < H k (p k)

/-- What rows generate. -/
def Lat (m n : Nat) (M : Nat → Nat → Int) (v : Nat → Int) : Prop := ∃ c : Nat → Int, ∀ b, b < n → v b = sumN m (fun k => c k * M k b)

theorem Lat.row (m n : Nat) (M : Nat → Nat → Int) (i : Nat) (hi : i < m) : Lat m n M (M i) := ⟨unitR i, fun b _ => (unit_mul m i hi M b).symm⟩

theorem Lat.comb {m n : Nat} {M : Nat → Nat → Int} {u v : Nat → Int} (hu : Lat m n M u) (hv : Lat m n M v) (x y : Int) : Lat m n M (fun b => x * u b + y * v b) := by
  obtain ⟨c, hc⟩ := hu
  obtain ⟨d, hd⟩ := hv
  refine ⟨fun k => x * c k + y * d k, fun b hb => ?_⟩
  show x * u b + y * v b = sumN m (fun k => (x * c k + y * d k) * M k b)
  rw [hc b hb, hd b hb, ← sumN_mul, ← sumN_mul, ← sumN_add]
  apply sumN_congr
  intro k _
  rw [Int.add_mul, Int.mul_assoc, Int.mul_assoc]

theorem Lat.trans {m m' n : Nat} {M M' : Nat → Nat → Int} (h : ∀ i, i < m → Lat m' n M' (M i)) {v : Nat → Int} (hv : Lat m n M v) : Lat m' n M' v := by
  obtain ⟨c, hc⟩ := hv
  have key : ∀ q, q ≤ m → Lat m' n M' (fun b => sumN q (fun k => c k * M k b)) := by
    intro q
    induction q with
    | zero => intro _; exact ⟨fun _ => 0, fun b _ => by
      show (0 : Int) = sumN m' (fun k => 0 * M' k b)
      exact (sumN_zero m').symm.trans (sumN_congr fun k _ => (Int.zero_mul _).symm)⟩
    | succ q ih =>
      intro hq
      obtain ⟨d, hd⟩ := (ih (by omega)).comb (h q (by omega)) 1 (c q)
      exact ⟨d, fun b hb => by
        have h1 : 1 * sumN q (fun k => c k * M k b) + c q * M q b = _ := hd b hb
        show sumN q (fun k => c k * M k b) + c q * M q b = _
        rw [← h1]; omega⟩
  obtain ⟨d, hd⟩ := key m (Nat.le_refl _)
  exact ⟨d, fun b hb => (hc b hb).trans (hd b hb)⟩

namespace Form
variable {r n : Nat} {H : Nat → Nat → Int} {p : Nat → Nat}

theorem le_pivot (F : Form r n H p) {i k : Nat} (h : i ≤ k) (hk : k < r) : p i ≤ p k := by
  rcases Nat.lt_or_eq_of_le h with h | h
  · exact Nat.le_of_lt (F.inc i k h hk)
  · rw [h]; exact Nat.le_refl _

/-- In a pivot's place stands so much of its row, if nothing of the rows ahead is in it. -/
theorem at_pivot (F : Form r n H p) (c : Nat → Int) (i : Nat) (hi : i < r) (h0 : ∀ k, k < i → c k = 0) : sumN r (fun k => c k * H k (p i)) = c i * H i (p i) :=
  sumN_single r i hi _ fun k hk hne => by
    rcases (by omega : k < i ∨ i < k) with h | h
    · rw [h0 k h, Int.zero_mul]
    · rw [F.zero k (p i) hk (F.inc i k h hk), Int.mul_zero]

/-- Where something that is generated begins, there a pivot stands, and goes into it. -/
theorem leads (F : Form r n H p) {v : Nat → Int} (hv : Lat r n H v) {t : Nat} (ht : t < n) (h0 : ∀ b, b < t → v b = 0) (hne : v t ≠ 0) : ∃ i c, i < r ∧ p i = t ∧ v t = c * H i t := by
  obtain ⟨c, hc⟩ := hv
  -- the first row of which something is in it
  have hex : ∃ i, i < r ∧ (∀ k, k < i → c k = 0) ∧ c i ≠ 0 := by
    have key : ∀ q, q ≤ r → (∀ k, k < q → c k = 0) ∨ ∃ i, i < r ∧ (∀ k, k < i → c k = 0) ∧ c i ≠ 0 := by
      intro q
      induction q with
      | zero => intro _; exact .inl fun k hk => by omega
      | succ q ih =>
        intro hq
        rcases ih (by omega) with h | h
        · by_cases hcq : c q = 0
          · exact .inl fun k hk => by
              by_cases hkq : k = q
              · rw [hkq]; exact hcq
              · exact h k (by omega)
          · exact .inr ⟨q, by omega, h, hcq⟩
        · exact .inr h
    rcases key r (Nat.le_refl _) with h | h
    · exfalso
      apply hne
      rw [hc t ht, sumN_congr (g := fun _ => 0) fun k hk => by rw [h k hk, Int.zero_mul], sumN_zero]
    · exact h
  obtain ⟨i, hi, hk, hci⟩ := hex
  have hpi : v (p i) = c i * H i (p i) := by rw [hc _ (F.lt i hi)]; exact F.at_pivot c i hi hk
  have hb : ∀ b, b < p i → v b = 0 := fun b hbp => by
    by_cases hbn : b < n
    · rw [hc b hbn, sumN_congr (g := fun _ => 0) fun k hkr => ?_, sumN_zero]
      by_cases h : k < i
      · rw [hk k h, Int.zero_mul]
      · rw [F.zero k b hkr (Nat.lt_of_lt_of_le hbp (F.le_pivot (by omega) hkr)), Int.mul_zero]
    · have := F.lt i hi; omega
  have hpt : p i = t := by
    rcases Nat.lt_trichotomy (p i) t with h | h | h
    · exfalso
      have h1 := h0 _ h
      rw [hpi] at h1
      rcases Int.mul_eq_zero.1 h1 with h2 | h2
      · exact hci h2
      · have := F.pos i hi; omega
    · exact h
    · exact absurd (hb t h) hne
  exact ⟨i, c i, hi, hpt, by rw [← hpt]; exact hpi⟩

end Form

theorem same_places {r r' n : Nat} {H H' : Nat → Nat → Int} {p p' : Nat → Nat} (F : Form r n H p) (F' : Form r' n H' p') (hin : ∀ i, i < r → Lat r' n H' (H i)) (hin' : ∀ i, i < r' → Lat r n H (H' i)) : ∀ i, i < r → i < r' ∧ p i = p' i := by
  have to : ∀ i, i < r → ∃ j, j < r' ∧ p' j = p i := fun i hi => by
    obtain ⟨j, _, hj, e, -⟩ := F'.leads (hin i hi) (F.lt i hi) (fun b hb => F.zero i b hi hb) (by have := F.pos i hi; omega)
    exact ⟨j, hj, e⟩
  have from' : ∀ i, i < r' → ∃ j, j < r ∧ p j = p' i := fun i hi => by
    obtain ⟨j, _, hj, e, -⟩ := F.leads (hin' i hi) (F'.lt i hi) (fun b hb => F'.zero i b hi hb) (by have := F'.pos i hi; omega)
    exact ⟨j, hj, e⟩
  intro i
  induction i using Nat.strongRecOn with
  | _ i ih =>
    intro hi
    obtain ⟨j, hj, ej⟩ := to i hi
    have hji : i ≤ j := by
      rcases Nat.lt_or_ge j i with h | h
      · have h1 := (ih j h (by omega)).2
        have h2 := F.inc j i h hi
        omega
      · exact h
    have hi' : i < r' := by omega
    obtain ⟨k, hk, ek⟩ := from' i hi'
    have hki : i ≤ k := by
      rcases Nat.lt_or_ge k i with h | h
      · have h1 := (ih k h (by omega)).2
        have h2 := F'.inc k i h hi'
        omega
      · exact h
    have h1 := F.le_pivot hki hk
    have h2 := F'.le_pivot hji hj
    exact ⟨hi', by omega⟩

/-- THE ONE FORM: rows in it that generate the same are the same. -/
theorem form_one {r r' n : Nat} {H H' : Nat → Nat → Int} {p p' : Nat → Nat} (F : Form r n H p) (F' : Form r' n H' p') (hin : ∀ i, i < r → Lat r' n H' (H i)) (hin' : ∀ i, i < r' → Lat r n H (H' i)) :
    r = r' ∧ ∀ i, i < r → p i = p' i ∧ ∀ b, b < n → H i b = H' i b := by
  have hp := same_places F F' hin hin'
  have hp' := same_places F' F hin' hin
  have hr : r = r' := by
    rcases Nat.lt_trichotomy r r' with h | h | h
    · have := (hp' r h).1; omega
    · exact h
    · have := (hp r' h).1; omega
  subst hr
  -- the pivots
  have hd : ∀ i, i < r → H i (p i) = H' i (p i) := fun i hi => by
    have e := (hp i hi).2
    have h1 := F.pos i hi
    have h2 := F'.pos i hi
    rw [← e] at h2
    obtain ⟨j, c, hj, ej, hc⟩ := F'.leads (hin i hi) (F.lt i hi) (fun b hb => F.zero i b hi hb) (by omega)
    obtain ⟨k, d, hk, ek, hd⟩ := F.leads (hin' i hi) (t := p i) (F.lt i hi) (fun b hb => F'.zero i b hi (by omega)) (by omega)
    have ji : j = i := by
      rcases Nat.lt_trichotomy j i with h | h | h
      · have := F'.inc j i h hi; omega
      · exact h
      · have := F'.inc i j h hj; omega
    have ki : k = i := by
      rcases Nat.lt_trichotomy k i with h | h | h
      · have := F.inc k i h hi; omega
      · exact h
      · have := F.inc i k h hk; omega
    rw [ji] at hc
    rw [ki] at hd
    generalize H i (p i) = x at *
    generalize H' i (p i) = y at *
    have hc0 : 0 < c := by
      rcases (by omega : 0 < c ∨ c ≤ 0) with h | h
      · exact h
      · have := Int.mul_nonpos_of_nonpos_of_nonneg h (by omega : 0 ≤ y)
        omega
    have hd0 : 0 < d := by
      rcases (by omega : 0 < d ∨ d ≤ 0) with h | h
      · exact h
      · have := Int.mul_nonpos_of_nonpos_of_nonneg h (by omega : 0 ≤ x)
        omega
    have h3 : y ≤ c * y := by
      have := Int.mul_le_mul (by omega : (1 : Int) ≤ c) (Int.le_refl y) (by omega) (by omega)
      omega
    have h4 : x ≤ d * x := by
      have := Int.mul_le_mul (by omega : (1 : Int) ≤ d) (Int.le_refl x) (by omega) (by omega)
      omega
    omega
  refine ⟨rfl, fun i hi => ⟨(hp i hi).2, ?_⟩⟩
  -- what is between two rows
  have hu : Lat r n H (fun b => 1 * H i b + (-1) * H' i b) := (Lat.row r n H i hi).comb (hin' i hi) 1 (-1)
  obtain ⟨c, hc⟩ := hu
  have hz : ∀ k, k < r → c k = 0 := by
    have key : ∀ q, q ≤ r → ∀ k, k < q → c k = 0 := by
      intro q
      induction q with
      | zero => intro _ k hk; omega
      | succ q ih =>
        intro hq k hk
        by_cases hkq : k = q
        · subst hkq
          have h1 : 1 * H i (p k) + (-1) * H' i (p k) = _ := hc (p k) (F.lt k (by omega))
          rw [F.at_pivot c k (by omega) (ih (by omega))] at h1
          have hpos := F.pos k (by omega)
          have ek := (hp k (by omega)).2
          have hdk := hd k (by omega)
          have hlt : absI (1 * H i (p k) + (-1) * H' i (p k)) < H k (p k) := by
            rcases Nat.lt_trichotomy k i with h | h | h
            · rw [F.zero i (p k) hi (F.inc k i h hi), F'.zero i (p k) hi (by rw [ek]; exact F'.inc k i h hi)]
              exact hpos
            · subst h
              rw [hd k hi]
              rw [show 1 * H' k (p k) + (-1) * H' k (p k) = 0 by omega, ← hdk]
              exact hpos
            · obtain ⟨a1, a2⟩ := F.red i k h (by omega)
              obtain ⟨b1, b2⟩ := F'.red i k h (by omega)
              rw [← ek] at b1 b2
              unfold absI
              split <;> omega
          rw [h1, absI_mul, absI_of_nonneg (by omega : 0 ≤ H k (p k))] at hlt
          rcases (by have := absI_nonneg (c k); omega : absI (c k) = 0 ∨ 1 ≤ absI (c k)) with h | h
          · exact absI_zero.1 h
          · have := Int.mul_le_mul h (Int.le_refl (H k (p k))) (by omega) (by omega)
            omega
        · exact ih (by omega) k (by omega)
    exact key r (Nat.le_refl _)
  intro b hb
  have h1 : 1 * H i b + (-1) * H' i b = _ := hc b hb
  rw [sumN_congr (g := fun _ => 0) fun k hk => by rw [hz k hk, Int.zero_mul], sumN_zero] at h1
  omega

end Go.Proofs.YtdedolkgcdlmeaaGreatDoor
