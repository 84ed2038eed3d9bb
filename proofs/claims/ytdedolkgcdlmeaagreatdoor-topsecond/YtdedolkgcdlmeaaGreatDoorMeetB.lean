/- Of rows in the one form those that are nought in the first half. -/
import Derived.Test.YtdedolkgcdlmeaaGreatDoorMeetL
namespace Go.Proofs.YtdedolkgcdlmeaaGreatDoor
open Go.RowKit Limbs

/-- Those behind, without the first half. -/
def behindL (n : Nat) (ts : List (List Int)) : List (List Int) := (ts.filter fun r => decide ((n : Int) ≤ first r)).map (·.drop n)

theorem pivot_cut (n : Nat) (p : Nat → Nat) (r : Nat) (inc : ∀ i k, i < k → k < r → p i < p k) : ∀ m, m ≤ r → ∃ c, c ≤ m ∧ (∀ k, k < c → p k < n) ∧ ∀ k, c ≤ k → k < m → n ≤ p k
  | 0, _ => ⟨0, Nat.le_refl _, fun k hk => absurd hk (by omega), fun k _ hk => absurd hk (by omega)⟩
  | m + 1, hm => by
    obtain ⟨c, hc, h1, h2⟩ := pivot_cut n p r inc m (by omega)
    by_cases h : p m < n
    · refine ⟨m + 1, Nat.le_refl _, fun k hk => ?_, fun k h1 h2 => absurd h1 (by omega)⟩
      by_cases hkm : k = m
      · rw [hkm]; exact h
      · exact Nat.lt_trans (inc k m (by omega) (by omega)) h
    · refine ⟨c, by omega, h1, fun k hk hkm => ?_⟩
      by_cases e : k = m
      · rw [e]; omega
      · exact h2 k hk (by omega)

theorem getD_drop' (r : List Int) (n j : Nat) : (r.drop n).getD j 0 = r.getD (n + j) 0 := by
  rw [List.getD_eq_getElem?_getD, List.getElem?_drop, List.getD_eq_getElem?_getD]

theorem filter_cut {n m : Nat} {ts : List (List Int)} {p : Nat → Nat} (F : FormL m ts p) : ∃ c, c ≤ ts.length ∧ (∀ k, k < c → p k < n) ∧ (∀ k, c ≤ k → k < ts.length → n ≤ p k) ∧ (ts.filter fun r => decide ((n : Int) ≤ first r)) = ts.drop c := by
  obtain ⟨c, hc, h1, h2⟩ := pivot_cut n p ts.length F.form.inc ts.length (Nat.le_refl _)
  refine ⟨c, hc, h1, h2, ?_⟩
  have e : ts = ts.take c ++ ts.drop c := (List.take_append_drop c ts).symm
  conv => lhs; rw [e]
  rw [List.filter_append]
  have e1 : ((ts.take c).filter fun r => decide ((n : Int) ≤ first r)) = [] := by
    rw [List.filter_eq_nil_iff]
    intro r hr
    obtain ⟨k, hk, e⟩ := List.getElem_of_mem hr
    rw [List.length_take] at hk
    rw [List.getElem_take] at e
    have hf := (F.first (show k < ts.length by omega)).1
    have := h1 k (by omega)
    rw [← e, hf]
    simp only [decide_eq_true_eq]
    omega
  have e2 : ((ts.drop c).filter fun r => decide ((n : Int) ≤ first r)) = ts.drop c := by
    rw [List.filter_eq_self]
    intro r hr
    obtain ⟨k, hk, e⟩ := List.getElem_of_mem hr
    rw [List.length_drop] at hk
    rw [List.getElem_drop] at e
    have hf := (F.first (show c + k < ts.length by omega)).1
    have := h2 (c + k) (by omega) (by omega)
    rw [← e, hf]
    simp only [decide_eq_true_eq]
    omega
  rw [e1, e2, List.nil_append]

theorem behind_get {n c : Nat} {ts : List (List Int)} (k j : Nat) (hk : c + k < ts.length) : (((ts.drop c).map (·.drop n)).getD k []).getD j 0 = (ts.getD (c + k) []).getD (n + j) 0 := by
  have hl : k < ((ts.drop c).map (·.drop n)).length := by rw [List.length_map, List.length_drop]; omega
  rw [getD_row hl, List.getElem_map, List.getElem_drop, getD_drop', getD_row hk]

/-- They are in the one form, too. -/
theorem behind_form {f n : Nat} {ts : List (List Int)} {p : Nat → Nat} (F : FormL (f + n) ts p) : ∃ q, FormL n (behindL f ts) q := by
  obtain ⟨c, hc, -, h2, e⟩ := filter_cut (n := f) F
  refine ⟨fun k => p (c + k) - f, ?_⟩
  unfold behindL
  rw [e]
  have hl : ((ts.drop c).map (·.drop f)).length = ts.length - c := by rw [List.length_map, List.length_drop]
  refine ⟨fun r hr => ?_, ?_⟩
  · obtain ⟨s, hs, rfl⟩ := List.mem_map.1 hr
    rw [List.length_drop, F.len s (List.mem_of_mem_drop hs)]
    omega
  · rw [hl]
    refine ⟨fun i k hik hk => ?_, fun i hi => ?_, fun i b hi hb => ?_, fun i hi => ?_, fun i k hik hk => ?_⟩
    · have := F.form.inc (c + i) (c + k) (by omega) (by omega)
      have := h2 (c + i) (by omega) (by omega)
      omega
    · have := F.form.lt (c + i) (by omega)
      have := h2 (c + i) (by omega) (by omega)
      omega
    · rw [behind_get i b (by omega)]
      exact F.form.zero (c + i) (f + b) (by omega) (by omega)
    · have h3 := h2 (c + i) (by omega) (by omega)
      rw [behind_get i _ (by omega), show f + (p (c + i) - f) = p (c + i) by omega]
      exact F.form.pos (c + i) (by omega)
    · have h3 := h2 (c + k) (by omega) (by omega)
      rw [behind_get i _ (by omega), behind_get k _ (by omega), show f + (p (c + k) - f) = p (c + k) by omega]
      exact F.form.red (c + i) (c + k) (by omega) (by omega)

/-- What they generate stands behind noughts. -/
theorem behind_gens {f n : Nat} {ts : List (List Int)} {p : Nat → Nat} (F : FormL (f + n) ts p) {v : List Int} (hv : v.length = n) : Gens n (InL (behindL f ts)) v ↔ Gens (f + n) (InL ts) (List.replicate f 0 ++ v) := by
  obtain ⟨c, hc, h1, h2, e⟩ := filter_cut (n := f) F
  unfold behindL
  rw [e]
  constructor
  · intro h
    clear hv
    induction h with
    | base hv hl =>
      obtain ⟨s, hs, rfl⟩ := List.mem_map.1 hv
      have hst := List.mem_of_mem_drop hs
      have hsl := F.len s hst
      obtain ⟨k, hk, es⟩ := List.getElem_of_mem hs
      rw [List.length_drop] at hk
      rw [List.getElem_drop] at es
      have es' : List.replicate f 0 ++ s.drop f = s := by
        apply list_ext (by rw [List.length_append, List.length_replicate, List.length_drop, hsl]; omega)
        intro j hj
        rw [List.length_append, List.length_replicate, List.length_drop, hsl] at hj
        by_cases hjn : j < f
        · rw [getD_left _ _ _ (by simpa using hjn), getD_zeros]
          have := F.form.zero (c + k) j (by omega) (by have := h2 (c + k) (by omega) (by omega); omega)
          rw [getD_row (by omega), es] at this
          exact this.symm
        · have hr := getD_right (List.replicate f 0) (s.drop f) (j - f)
          rw [List.length_replicate, show f + (j - f) = j by omega, getD_drop', show f + (j - f) = j by omega] at hr
          exact hr
      rw [es']
      exact .base hst hsl
    | zero =>
      rw [List.replicate_append_replicate]
      exact .zero
    | comb x y hu hv g1 g2 =>
      have := Gens.comb x y g1 g2
      rw [comb_app x y _ _ _ _ rfl, comb_zeros] at this
      exact this
  · intro h
    obtain ⟨d, hd⟩ := lat_inL h
    have hz : ∀ k, k < c → d k = 0 := by
      intro k
      induction k using Nat.strongRecOn with
      | _ k ih =>
        intro hk
        have hp := h1 k hk
        have ha := F.form.at_pivot d k (by omega) (fun j hj => ih j hj (by omega))
        have hb : (List.replicate f 0 ++ v).getD (p k) 0 = sumN ts.length (fun j => d j * (ts.getD j []).getD (p k) 0) := hd (p k) (by omega)
        rw [getD_left _ _ _ (by simpa using hp), getD_zeros] at hb
        have hpos := F.form.pos k (by omega)
        have h0 : d k * (ts.getD k []).getD (p k) 0 = 0 := ha.symm.trans hb.symm
        rcases Int.mul_eq_zero.1 h0 with h | h
        · exact h
        · omega
    apply gens_of_lat (fun r hr => ?_) hv
    · refine ⟨fun k => d (c + k), fun b hb => ?_⟩
      have hb' : (List.replicate f 0 ++ v).getD (f + b) 0 = sumN ts.length (fun j => d j * (ts.getD j []).getD (f + b) 0) := hd (f + b) (by omega)
      show v.getD b 0 = sumN ((ts.drop c).map (·.drop f)).length (fun k => d (c + k) * (((ts.drop c).map (·.drop f)).getD k []).getD b 0)
      have hr := getD_right (List.replicate f 0) v b
      rw [List.length_replicate] at hr
      rw [hr] at hb'
      rw [hb']
      have hl : ((ts.drop c).map (·.drop f)).length = ts.length - c := by rw [List.length_map, List.length_drop]
      rw [hl]
      have hs : ∀ m, c + m ≤ ts.length → sumN (c + m) (fun k => d k * (ts.getD k []).getD (f + b) 0) = sumN m (fun k => d (c + k) * (((ts.drop c).map (·.drop f)).getD k []).getD b 0) := by
        intro m
        induction m with
        | zero =>
          intro _
          refine (sumN_congr (g := fun _ => 0) fun k hk => ?_).trans (sumN_zero _)
          rw [hz k hk, Int.zero_mul]
        | succ m ih =>
          intro hm
          have e1 : sumN (c + (m + 1)) (fun k => d k * (ts.getD k []).getD (f + b) 0) = sumN (c + m) (fun k => d k * (ts.getD k []).getD (f + b) 0) + d (c + m) * (ts.getD (c + m) []).getD (f + b) 0 := rfl
          have e2 : sumN (m + 1) (fun k => d (c + k) * (((ts.drop c).map (·.drop f)).getD k []).getD b 0) = sumN m (fun k => d (c + k) * (((ts.drop c).map (·.drop f)).getD k []).getD b 0) + d (c + m) * (((ts.drop c).map (·.drop f)).getD m []).getD b 0 := rfl
          rw [e1, e2, ih (by omega), behind_get m b (by omega)]
      have := hs (ts.length - c) (by omega)
      rw [show c + (ts.length - c) = ts.length by omega] at this
      exact this
    · obtain ⟨s, hs, rfl⟩ := List.mem_map.1 hr
      rw [List.length_drop, F.len s (List.mem_of_mem_drop hs)]
      omega

/-- What the two have in common. -/
theorem meet_gens {n : Nat} {hs ks ts : List (List Int)} {p : Nat → Nat} (hl : ∀ r ∈ hs, r.length = n) (kl : ∀ r ∈ ks, r.length = n) (F : FormL (n + n) ts p) (a : Alikes (n + n) (InL ts) (InL (wideL n hs ks))) {v : List Int} (hv : v.length = n) : Gens n (InL (behindL n ts)) v ↔ Gens n (InL hs) v ∧ Gens n (InL ks) v :=
  (behind_gens F hv).trans ((a _).trans (meet_wide hl kl hv))

end Go.Proofs.YtdedolkgcdlmeaaGreatDoor
