/- Rows in the one form are bounded by what generates the same. -/
import Derived.Test.YtdedolkgcdlmeaaGreatDoorOnes
import Derived.Test.YtdedolkgcdlmeaaGreatDoorMats
namespace Go.Proofs.YtdedolkgcdlmeaaGreatDoor
open Go.RowKit Limbs

theorem FormL.short {n : Nat} {hs : List (List Int)} {p : Nat → Nat} (h : FormL n hs p) : hs.length ≤ n := by
  have hrm : ∀ k, k < hs.length → k ≤ p k := fun k => by
    induction k with
    | zero => exact fun _ => Nat.zero_le _
    | succ k ih => intro hk; have := ih (by omega); have := h.form.inc k (k + 1) (by omega) hk; omega
  by_cases h0 : hs.length = 0
  · omega
  · have := hrm (hs.length - 1) (by omega); have := h.form.lt (hs.length - 1) (by omega); omega

theorem formL_bound {n nv : Nat} {hs l : List (List Int)} {p : Nat → Nat} (h : FormL n hs p) (ha : Alikes n (InL hs) (InL l)) (hl : ∀ us ∈ l, us.length = n) (hb : ∀ us ∈ l, ∀ j, j < n → ab (us.getD j 0) < bp nv) (hn : n ≤ 16) :
    ∀ r ∈ hs, ∀ j, j < r.length → ab (r.getD j 0) < bp (n * nv + 2) := by
  obtain ⟨C, hC⟩ := rows_coef (r := hs.length) (n := n) (mm := l.length) (H := fun k b => (hs.getD k []).getD b 0) (M := fun k b => (l.getD k []).getD b 0) (fun a haa => lat_inL ((ha _).1 (.base (getD_mem haa) (h.len _ (getD_mem haa)))))
  obtain ⟨T, hT⟩ := rows_coef (r := l.length) (n := n) (mm := hs.length) (H := fun k b => (l.getD k []).getD b 0) (M := fun k b => (hs.getD k []).getD b 0) (fun a haa => lat_inL ((ha _).2 (.base (getD_mem haa) (hl _ (getD_mem haa)))))
  intro r hr j hj
  obtain ⟨k, hk, e⟩ := List.getElem_of_mem hr
  have hlen := h.len r hr
  have h1 := form_bound hs.length l.length n _ _ C T p (bp nv) (by have := bp_pos nv; omega) h.form.lt (fun i k hi hki => h.form.zero i (p k) hi (h.form.inc k i hki hi)) (fun i hi => h.form.pos i hi) (fun i k hi hk hik => ⟨(h.form.red i k hik hk).1, Int.le_of_lt (h.form.red i k hik hk).2⟩) hC hT (fun a b ha hb' => Int.le_of_lt (hb _ (getD_mem ha) b hb')) k j hk (by omega)
  have h2 := facP_lt (v := nv) h.short hn
  rw [getD_row hk, e] at h1
  exact Int.lt_of_le_of_lt h1 h2

theorem MatN.tight {w : World} {v : Value} {zss : List (List Int)} {n m : Nat} (h : MatN w v zss n) (hz : ∀ zs ∈ zss, ∀ j, j < zs.length → ab (zs.getD j 0) < bp m) : MatN w v zss m := by
  obtain ⟨ao, cap, hv, h1, h2⟩ := h
  refine ⟨ao, cap, hv, h1, fun h0 => ?_⟩
  obtain ⟨b, off, e, hlt, hc⟩ := h2 h0
  refine ⟨b, off, e, hlt, fun i zs hi => ?_⟩
  obtain ⟨u, cu, hu⟩ := hc i zs hi
  exact ⟨u, cu, hu.tight (hz zs (List.mem_of_getElem? hi))⟩

theorem MatN.abs {w : World} {v : Value} {ms : List (List Int)} {nv : Nat} (h : MatN w v ms nv) : ∀ us ∈ ms, ∀ j, j < us.length → ab (us.getD j 0) < bp nv := fun us hus j hj => by
  obtain ⟨i, hi, e⟩ := List.getElem_of_mem hus
  obtain ⟨b, off, cap', e1, hlt, u, hc, hu⟩ := h.at i hi
  rw [e] at hu
  obtain ⟨b', off', cap2, e2⟩ := hu.form (by omega)
  subst e2
  obtain ⟨-, neg, o, l, c, -, -, hz⟩ := hu.at j hj
  exact hz.ab_lt

end Go.Proofs.YtdedolkgcdlmeaaGreatDoor
