/- Bareiss, step by step: what the numbers are while rows are cleared. No Go in it. -/
import Derived.Test.YtdedolkgcdlmeaaGreatDoorDetS
namespace Go.Proofs.YtdedolkgcdlmeaaGreatDoor
open Go.RowKit Limbs

/-- While rows are cleared: k places are done; P: the rows at the beginning, turned about as they are now. -/
structure BarI (n k : Nat) (M : Nat → Nat → Int) (B : Int) (t last : Int) (R P : Nat → Nat → Int) : Prop where
  sgn : t * t = 1
  dets : det n P = t * det n M
  piv : last = det k P
  ne : last ≠ 0
  ents : ∀ i j, k ≤ i → i < n → k ≤ j → j < n → R i j = bord k P i j
  small : ∀ i j, i < n → j < n → absI (P i j) ≤ B

section
variable {n k : Nat} {M R P : Nat → Nat → Int} {B t last : Int}

theorem BarI.start (h : ∀ i j, i < n → j < n → absI (M i j) ≤ B) : BarI n 0 M B 1 1 M M :=
  ⟨rfl, (Int.one_mul _).symm, rfl, by decide, fun i j _ _ _ _ => (bord_zero M i j).symm, h⟩

theorem BarI.none (C : BarI n k M B t last R P) (hk : k < n) (h : ∀ i, k ≤ i → i < n → R i k = 0) : det n M = 0 := by
  have h0 : det k P ≠ 0 := by rw [← C.piv]; exact C.ne
  have h1 := bord_none h0 hk fun i h1 h2 => by rw [← C.ents i k h1 h2 (Nat.le_refl k) hk]; exact h i h1 h2
  rw [C.dets] at h1
  rcases Int.mul_eq_zero.1 h1 with h2 | h2
  · have := C.sgn; rw [h2] at this; cases this
  · exact h2

/-- Which row is where, when two have changed places. -/
def sw (i k a : Nat) : Nat := if a = i then k else if a = k then i else a

theorem swapRows_sw (M : Nat → Nat → Int) (i k a b : Nat) : swapRows M i k a b = M (sw i k a) b := by
  unfold swapRows sw
  split
  · rfl
  · split <;> rfl

theorem BarI.step (C : BarI n k M B t last R P) (hk : k < n) (h0 : R k k ≠ 0) {R' : Nat → Nat → Int} (h : ∀ i j, k < i → i < n → k < j → j < n → R' i j * last = R k k * R i j - R i k * R k j) : BarI n (k + 1) M B t (R k k) R' P := by
  have hd : det k P ≠ 0 := by rw [← C.piv]; exact C.ne
  refine ⟨C.sgn, C.dets, ?_, h0, fun i j h1 h2 h3 h4 => ?_, C.small⟩
  · rw [C.ents k k (Nat.le_refl k) hk (Nat.le_refl k) hk, bord_self]
  · have e := h i j h1 h2 h3 h4
    rw [C.ents k k (Nat.le_refl k) hk (Nat.le_refl k) hk, C.ents i j (by omega) h2 (by omega) h4, C.ents i k (by omega) h2 (Nat.le_refl k) hk, C.ents k j (Nat.le_refl k) hk (by omega) h4, bareiss hd i j, ← C.piv] at e
    exact Int.eq_of_mul_eq_mul_right C.ne e

/-- What is divided: it goes up. -/
theorem BarI.goes (C : BarI n k M B t last R P) (hk : k < n) {i j : Nat} (h1 : k < i) (h2 : i < n) (h3 : k ≤ j) (h4 : j < n) : R k k * R i j - R i k * R k j = bord (k + 1) P i j * last := by
  have hd : det k P ≠ 0 := by rw [← C.piv]; exact C.ne
  rw [C.ents k k (Nat.le_refl k) hk (Nat.le_refl k) hk, C.ents i j (by omega) h2 h3 h4, C.ents i k (by omega) h2 (Nat.le_refl k) hk, C.ents k j (Nat.le_refl k) hk h3 h4, bareiss hd i j, ← C.piv]

theorem BarI.congr (C : BarI n k M B t last R P) {R' : Nat → Nat → Int} (h : ∀ i j, i < n → j < n → R' i j = R i j) : BarI n k M B t last R' P :=
  ⟨C.sgn, C.dets, C.piv, C.ne, fun i j h1 h2 h3 h4 => (h i j h2 h4).trans (C.ents i j h1 h2 h3 h4), C.small⟩

theorem BarI.fin (C : BarI n n M B t last R P) : t * last = det n M := by
  rw [C.piv, C.dets, ← Int.mul_assoc, C.sgn, Int.one_mul]

end

end Go.Proofs.YtdedolkgcdlmeaaGreatDoor
