/- What the invariants are of one lattice in another: each above one, each goes into the next one, the last one times all lies in the lesser lattice. No walk in it. -/
import Derived.Test.YtdedolkgcdlmeaaGreatDoorIdxR
namespace Go.Proofs.YtdedolkgcdlmeaaGreatDoor
open Go.RowKit Limbs

/-- The last one so far. -/
def lastZ (zs : List Int) (j : Nat) : Int := if j = 0 then 1 else zs.getD (j - 1) 0

theorem Kills.tr {r : Nat} {A : Nat → Nat → Int} {e : Int} (k : Kills r (trM A) e) : Kills r A e := by
  obtain ⟨C, h1, h2⟩ := k
  have t1 := h1.tr
  have t2 := h2.tr
  rw [trM_mul, trM_sc] at t1 t2
  exact ⟨trM C, t2, t1⟩

/-- All go into the last one. -/
theorem ChI.into {r : Nat} {ys : List Int} {D : Int} {A : Nat → Nat → Int} (C : ChI r ys D A r (r + 1)) {i : Nat} (hi : i < r) : ∃ p, ys.getD (r - 1) 0 = p * ys.getD i 0 := by
  by_cases e : i = r - 1
  · rw [e]; exact ⟨1, (Int.one_mul _).symm⟩
  · exact C.chain i hi (r - 1) (by omega) (by omega)

/-- Those above one are the last ones: each goes into the next one. -/
theorem over_chain : ∀ ys : List Int, (∀ i j, i < j → j < ys.length → ∃ p, ys.getD j 0 = p * ys.getD i 0) → ∀ i, i + 1 < (overOne ys).length → ∃ p, (overOne ys).getD (i + 1) 0 = p * (overOne ys).getD i 0
  | [], _, i, hi => absurd hi (Nat.not_lt_zero _)
  | y :: ys, hc, i, hi => by
    have ih := over_chain ys fun i j h1 h2 => by
      have := hc (i + 1) (j + 1) (by omega) (by simpa using h2)
      simpa using this
    by_cases hy : 1 < y
    · have e : overOne (y :: ys) = y :: overOne ys := by unfold overOne; rw [List.filter_cons_of_pos (by simpa using hy)]
      rw [e] at hi ⊢
      cases i with
      | zero =>
        have hl : 0 < (overOne ys).length := by simpa using hi
        have hm : (overOne ys)[0] ∈ ys := (List.mem_filter.1 (List.getElem_mem hl)).1
        obtain ⟨k, hk, ek⟩ := List.getElem_of_mem hm
        obtain ⟨p, hp⟩ := hc 0 (k + 1) (by omega) (by simpa using hk)
        refine ⟨p, ?_⟩
        have e1 : (y :: overOne ys).getD (0 + 1) 0 = ys[k] := by
          rw [ek, List.getD_eq_getElem?_getD, List.getElem?_cons_succ, List.getElem?_eq_getElem hl, Option.getD_some]
        rw [e1]
        simpa [List.getD_eq_getElem?_getD, List.getElem?_eq_getElem hk] using hp
      | succ i =>
        have := ih i (by simpa using hi)
        simpa using this
    · have e : overOne (y :: ys) = overOne ys := by unfold overOne; rw [List.filter_cons_of_neg (by simpa using hy)]
      rw [e] at hi ⊢
      exact ih i hi

section
variable {n : Nat} {hs ts : List (List Int)} {ph pt : Nat → Nat} {zs : List Int}

theorem InvQ.above (q : InvQ hs ts pt zs) : ∀ z ∈ zs, 1 < z := by
  obtain ⟨ys, fa, fs, pa, D, rfl, -⟩ := q
  intro z hz
  exact of_decide_eq_true (List.mem_filter.1 hz).2

theorem InvQ.chain (q : InvQ hs ts pt zs) : ∀ i, i + 1 < zs.length → ∃ p, zs.getD (i + 1) 0 = p * zs.getD i 0 := by
  obtain ⟨ys, fa, fs, pa, D, rfl, -, -, -, -, C⟩ := q
  exact over_chain ys fun i j h1 h2 => C.chain i (by rw [← C.len]; omega) j h1 (by rw [← C.len]; exact h2)

theorem prodL_ge {zs : List Int} (h : ∀ z ∈ zs, 0 < z) : ∀ z ∈ zs, z ≤ prodL zs := by
  induction zs with
  | nil => exact fun z hz => absurd hz (by simp)
  | cons y ys ih =>
    have hp : ∀ l : List Int, (∀ z ∈ l, 0 < z) → 0 < prodL l := fun l => by
      induction l with
      | nil => exact fun _ => Int.zero_lt_one
      | cons a l ih => exact fun h => Int.mul_pos (h a (by simp)) (ih fun z hz => h z (by simp [hz]))
    have p1 := hp ys fun z hz => h z (by simp [hz])
    have p0 := h y (by simp)
    intro z hz
    show z ≤ y * prodL ys
    rcases List.mem_cons.1 hz with rfl | hz
    · have := Int.mul_le_mul_of_nonneg_left (show 1 ≤ prodL ys by omega) (show 0 ≤ z by omega)
      omega
    · have h1 := ih (fun z hz => h z (by simp [hz])) z hz
      have := Int.mul_le_mul_of_nonneg_right (show 1 ≤ y by omega) (show 0 ≤ prodL ys by omega)
      omega

theorem InvQ.small (q : InvQ hs ts pt zs) (G : FormL n ts pt) (h4 : n ≤ 4) (hlen : ∀ u ∈ hs, u.length = n) (hin : ∀ u ∈ hs, Gens n (InL ts) u) (hl : hs.length = ts.length) (hb : ∀ u ∈ hs, ∀ j, j < n → ab (u.getD j 0) < bp 6) (hp : prodL zs = absI (det ts.length (ent (muchM hs ts pt)))) (hpos : ∀ z ∈ zs, 0 < z) : ∀ z ∈ zs, ab z < bp 40 := by
  obtain ⟨ys, fa, fs, pa, D, rfl, F, a, hfa, -, -⟩ := q
  have hr : fa.length = ts.length := hfa.trans hl
  have S : Sq ts.length fa := sq_of F hr
  have hts := G.short
  have d1 := det_diag (by rw [muchM_length]; exact hl) (muchM_len hs ts pt) S a
  have d2 := S.bound a (muchM_len hs ts pt) (B := bp 7) (by have := bp_pos 7; omega) fun us hus j hj => by
    obtain ⟨i, hi, rfl⟩ := List.mem_map.1 hus
    have h1 := much_bound G (hlen i hi) (hin i hi) (B := bp 6) (fun b hb' => by have := hb i hi b hb'; unfold absI; unfold ab at this; omega) j hj
    have h2 := bp_eight (nv := 6) (by omega) h1
    unfold absI; unfold ab at h2
    have : bp (6 + 1) = bp 7 := rfl
    omega
  have d3 := facP_less (r := ts.length) (v := 7) (by omega)
  have d4 := bp_mono (m := ts.length * 7 + 2) (n := 40) (by omega)
  intro z hz
  have h1 := prodL_ge hpos z hz
  have h2 := hpos z hz
  unfold ab
  rw [if_neg (by omega)]
  rw [hp, d1] at h1
  omega

end

end Go.Proofs.YtdedolkgcdlmeaaGreatDoor
