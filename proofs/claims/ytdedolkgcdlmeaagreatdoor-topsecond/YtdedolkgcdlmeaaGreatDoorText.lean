/- A number's text. -/
import Derived.Test.YtdedolkgcdlmeaaGreatDoorGroups
import Derived.Test.YtdedolkgcdlmeaaGreatDoorShelf
namespace Go.Proofs.YtdedolkgcdlmeaaGreatDoor
open Go.RowKit Limbs

/-- so many decimal digits of a number -/
def pad : Nat → Nat → List UInt8
  | 0, _ => []
  | k + 1, g => pad k (g / 10) ++ [UInt8.ofNat (48 + g % 10)]

theorem pad_length (k g : Nat) : (pad k g).length = k := by
  induction k generalizing g with
  | zero => rfl
  | succ k ih => simp [pad, ih]

theorem decDigits_pad (k : Nat) : ∀ q g : Nat, 1 ≤ q → g < 10 ^ k → Lib.decDigits (q * 10 ^ k + g) = Lib.decDigits q ++ pad k g := by
  induction k with
  | zero => intro q g _ hg; have : g = 0 := by simpa using hg
            subst this; simp [pad]
  | succ k ih =>
    intro q g hq hg
    have e1 : q * 10 ^ (k + 1) = 10 * (q * 10 ^ k) := by rw [Nat.pow_succ, ← Nat.mul_assoc, Nat.mul_comm]
    have e0 : 0 < q * 10 ^ k := Nat.mul_pos (by omega) (Nat.pow_pos (by decide))
    have hg' : g / 10 < 10 ^ k := by rw [Nat.pow_succ] at hg; omega
    rw [Lib.decDigits, dif_neg (by omega)]
    have e2 : (q * 10 ^ (k + 1) + g) / 10 = q * 10 ^ k + g / 10 := by omega
    have e3 : (q * 10 ^ (k + 1) + g) % 10 = g % 10 := by omega
    rw [e2, e3, ih q (g / 10) hq hg', List.append_assoc]
    rfl

theorem decDigits_len (u : Nat) : (Lib.decDigits u).length ≤ u + 1 ∧ 1 ≤ (Lib.decDigits u).length := by
  induction u using Nat.strongRecOn with
  | _ u ih =>
    rw [Lib.decDigits]
    by_cases h : u < 10
    · rw [dif_pos h]; simp
    · rw [dif_neg h]
      have := ih (u / 10) (by omega)
      simp
      omega

theorem nine (g : Nat) (hg : g < 1000000000) : (Lib.decDigits (1000000000 + g)).drop 1 = pad 9 g := by
  have := decDigits_pad 9 1 g (Nat.le_refl _) hg
  rw [show 1 * 10 ^ 9 + g = 1000000000 + g by omega] at this
  rw [this, Lib.decDigits_one (by decide)]
  rfl

theorem group_digits (q g : Nat) (hq : 1 ≤ q) (hg : g < 1000000000) : Lib.decDigits (q * 1000000000 + g) = Lib.decDigits q ++ pad 9 g := decDigits_pad 9 q g hq hg

theorem gv_nonneg {gs : List Int} (h : ∀ g ∈ gs, 0 ≤ g ∧ g < 1000000000) : 0 ≤ gv gs := by
  induction gs with
  | nil => simp [gv]
  | cons x xs ih => have := ih fun g hg => h g (by simp [hg]); have := h x (by simp); simp only [gv]; omega

theorem gv_pos {gs : List Int} (h : ∀ g ∈ gs, 0 ≤ g ∧ g < 1000000000) (hl : gs.length ≠ 0) (hn : gs.getD (gs.length - 1) 0 ≠ 0) : 0 < gv gs := by
  induction gs with
  | nil => simp at hl
  | cons x xs ih =>
    have hx := h x (by simp)
    have hxs : ∀ g ∈ xs, 0 ≤ g ∧ g < 1000000000 := fun g hg => h g (by simp [hg])
    have h0 := gv_nonneg hxs
    simp only [gv]
    by_cases e : xs.length = 0
    · have : xs = [] := List.eq_nil_of_length_eq_zero e
      subst this
      simp at hn
      simp [gv]; omega
    · have := ih hxs e (by
        have e2 : (x :: xs).length - 1 = (xs.length - 1) + 1 := by simp; omega
        rw [e2, List.getD_cons_succ] at hn; exact hn)
      omega

/-- the digits of the groups from a place on -/
theorem text_step {gs : List Int} (h : ∀ g ∈ gs, 0 ≤ g ∧ g < 1000000000) (hn : gs.getD (gs.length - 1) 0 ≠ 0) {p : Nat} (hp : p + 1 < gs.length) :
    Lib.decDigits (gv (gs.drop p)).toNat = Lib.decDigits (gv (gs.drop (p + 1))).toNat ++ pad 9 (gs.getD p 0).toNat := by
  have hm : gs.getD p 0 ∈ gs := by rw [List.getD_eq_getElem?_getD, List.getElem?_eq_getElem (by omega)]; exact List.getElem_mem _
  have hg := h _ hm
  have hd : ∀ g ∈ gs.drop (p + 1), 0 ≤ g ∧ g < 1000000000 := fun g hg => h g (List.mem_of_mem_drop hg)
  have hl : (gs.drop (p + 1)).length = gs.length - (p + 1) := List.length_drop
  have h1 := gv_pos hd (by omega) (by rw [getD_drop, hl, show p + 1 + (gs.length - (p + 1) - 1) = gs.length - 1 by omega]; exact hn)
  have e : gs.drop p = gs.getD p 0 :: gs.drop (p + 1) := drop_cons_getD gs p (by omega)
  rw [e]
  simp only [gv]
  rw [← group_digits _ _ (by omega) (by omega)]
  congr 1
  omega

/-- what the number's text is -/
def txt (z : Int) : List UInt8 := Lib.itoa z

/-- The text comes back. -/
def TextPost (w : World) (z : Int) (e : Ending) (w' : World) : Prop := e = .returned (.string ⟨(txt z).toArray⟩) ∧ Below w.heap.size w w'

end Go.Proofs.YtdedolkgcdlmeaaGreatDoor
