/- Of rows in the one form: where their first numbers lie. -/
import Derived.Test.YtdedolkgcdlmeaaGreatDoorHermite
import Derived.Test.YtdedolkgcdlmeaaGreatDoorRaws
namespace Go.Proofs.YtdedolkgcdlmeaaGreatDoor
open Go.RowKit Limbs

theorem first_eq : ∀ (zs : List Int) (k : Nat), k < zs.length → (∀ j, j < k → zs.getD j 0 = 0) → zs.getD k 0 ≠ 0 → first zs = k
  | [], k, hk, _, _ => absurd hk (by simp)
  | z :: zs, 0, _, _, hne => by
    have : z ≠ 0 := by simpa using hne
    rw [first, if_neg this]; rfl
  | z :: zs, k + 1, hk, h0, hne => by
    have e : z = 0 := by simpa using h0 0 (by omega)
    have ih := first_eq zs k (by simpa using hk) (fun j hj => by simpa using h0 (j + 1) (by omega)) (by simpa using hne)
    rw [first, if_pos e, ih, if_neg (by omega)]
    omega

theorem FormL.first {n : Nat} {hs : List (List Int)} {p : Nat → Nat} (h : FormL n hs p) {k : Nat} (hk : k < hs.length) : first hs[k] = p k ∧ p k < n ∧ 0 < hs[k].getD (p k) 0 := by
  have hlen := h.len _ (List.getElem_mem hk)
  have h1 := h.form.lt k hk
  have h2 := h.form.pos k hk
  have h3 := h.form.zero k
  simp only [getD_row hk] at h2 h3
  exact ⟨first_eq _ _ (by omega) (fun j hj => h3 j hk hj) (by omega), h1, h2⟩

theorem FormL.red {n : Nat} {hs : List (List Int)} {p : Nat → Nat} (h : FormL n hs p) {i k : Nat} (hik : i < k) (hk : k < hs.length) : 0 ≤ (hs[i]'(by omega)).getD (p k) 0 ∧ (hs[i]'(by omega)).getD (p k) 0 < hs[k].getD (p k) 0 := by
  have := h.form.red i k hik hk
  simpa only [getD_row hk, getD_row (show i < hs.length by omega)] using this

/-- The pivot's place of the row ahead. -/
def lastP (p : Nat → Nat) (k : Nat) : Int := if k = 0 then -1 else (p (k - 1) : Int)

theorem FormL.last {n : Nat} {hs : List (List Int)} {p : Nat → Nat} (h : FormL n hs p) {k : Nat} (hk : k < hs.length) : lastP p k < (p k : Int) := by
  unfold lastP
  split
  · omega
  · have := h.form.inc (k - 1) k (by omega) hk
    omega

theorem lastP_range {n : Nat} {hs : List (List Int)} {p : Nat → Nat} (h : FormL n hs p) {k : Nat} (hk : k ≤ hs.length) : -1 ≤ lastP p k ∧ lastP p k < (n : Int) + 1 := by
  unfold lastP
  split
  · omega
  · have := h.form.lt (k - 1) (by omega)
    omega

end Go.Proofs.YtdedolkgcdlmeaaGreatDoor
