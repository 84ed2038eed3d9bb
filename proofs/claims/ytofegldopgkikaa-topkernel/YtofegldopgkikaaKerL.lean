/- What rows make nought of, by rows with units behind them. No Go in it. -/
import Derived.Test.YtofegldopgkikaaMeetB
namespace Go.Proofs.Ytofegldopgkikaa
open Go.RowKit Limbs

/-- What a row makes of a vector. -/
def dotL (n : Nat) (r v : List Int) : Int := sumN n (fun b => r.getD b 0 * v.getD b 0)

/-- A unit. -/
def unitL (n j : Nat) : List Int := (List.range n).map fun b => if b = j then 1 else 0

theorem unitL_len (n j : Nat) : (unitL n j).length = n := by simp [unitL]

theorem unitL_get (n j b : Nat) (hb : b < n) : (unitL n j).getD b 0 = if b = j then 1 else 0 := range_getD n _ b hb

/-- Of each place a row: what the rows make of its unit, and behind that the unit. -/
def tracedL (ms : List (List Int)) (n : Nat) : List (List Int) := (List.range n).map fun j => (ms.map fun r => r.getD j 0) ++ unitL n j

theorem tracedL_length (ms : List (List Int)) (n : Nat) : (tracedL ms n).length = n := by simp [tracedL]

theorem tracedL_len (ms : List (List Int)) (n : Nat) : ∀ r ∈ tracedL ms n, r.length = ms.length + n := by
  intro r hr
  obtain ⟨j, -, rfl⟩ := List.mem_map.1 hr
  rw [List.length_append, List.length_map, unitL_len]

theorem tracedL_get (ms : List (List Int)) (n j : Nat) (hj : j < n) : (tracedL ms n).getD j [] = (ms.map fun r => r.getD j 0) ++ unitL n j := by
  rw [getD_row (by rw [tracedL_length]; exact hj)]
  simp [tracedL]

theorem map_getD0 (ms : List (List Int)) (g : List Int → Int) (i : Nat) (hi : i < ms.length) : (ms.map g).getD i 0 = g (ms.getD i []) := by
  rw [getD_row hi, List.getD_eq_getElem?_getD, List.getElem?_eq_getElem (by rw [List.length_map]; exact hi), Option.getD_some, List.getElem_map]

theorem dot_unit (n j : Nat) (hj : j < n) (r : List Int) : dotL n r (unitL n j) = r.getD j 0 := by
  unfold dotL
  refine (sumN_congr (g := fun b => r.getD b 0 * unitR j b) fun b hb => ?_).trans (sum_unit' n j hj r)
  rw [unitL_get n j b hb]; rfl
where
  sum_unit' (n j : Nat) (hj : j < n) (r : List Int) : sumN n (fun b => r.getD b 0 * unitR j b) = r.getD j 0 := by
    have := sumN_single n j hj (fun b => r.getD b 0 * unitR j b) (fun i _ hij => by show _ * (if i = j then (1 : Int) else 0) = 0; rw [if_neg hij, Int.mul_zero])
    rw [this]
    show _ * (if j = j then (1 : Int) else 0) = _
    rw [if_pos rfl, Int.mul_one]

theorem dot_zero (n m : Nat) (r : List Int) : dotL n r (List.replicate m 0) = 0 := by
  unfold dotL
  refine (sumN_congr (g := fun _ => 0) fun b _ => ?_).trans (sumN_zero _)
  rw [getD_zeros, Int.mul_zero]

theorem dot_zero_left (n m : Nat) (v : List Int) : dotL n (List.replicate m 0) v = 0 := by
  unfold dotL
  refine (sumN_congr (g := fun _ => 0) fun b _ => ?_).trans (sumN_zero _)
  rw [getD_zeros, Int.zero_mul]

theorem dot_comb (n : Nat) (r u v : List Int) (x y : Int) (hu : u.length = n) (hv : v.length = n) : dotL n r (List.zipWith (fun a b => x * a + y * b) u v) = x * dotL n r u + y * dotL n r v := by
  unfold dotL
  rw [← sumN_mul, ← sumN_mul, ← sumN_add]
  refine sumN_congr fun b hb => ?_
  rw [zip_getD _ _ _ (by omega) b (by omega), Int.mul_add, ← Int.mul_assoc, ← Int.mul_assoc, ← Int.mul_assoc, ← Int.mul_assoc, Int.mul_comm _ x, Int.mul_comm _ y]

theorem dot_comb_left (n : Nat) (r u v : List Int) (x y : Int) (hu : u.length = n) (hv : v.length = n) : dotL n (List.zipWith (fun a b => x * a + y * b) u v) r = x * dotL n u r + y * dotL n v r := by
  unfold dotL
  rw [← sumN_mul, ← sumN_mul, ← sumN_add]
  refine sumN_congr fun b hb => ?_
  rw [zip_getD _ _ _ (by omega) b (by omega), Int.add_mul, Int.mul_assoc, Int.mul_assoc]

/-- What they generate is what the rows make of any vector, and it behind that. -/
theorem traced_gens (ms : List (List Int)) (n : Nat) (z : List Int) : Gens (ms.length + n) (InL (tracedL ms n)) z ↔ ∃ v, v.length = n ∧ z = (ms.map fun r => dotL n r v) ++ v := by
  constructor
  · intro h
    induction h with
    | base hv hl =>
      obtain ⟨j, hj, rfl⟩ := List.mem_map.1 hv
      rw [List.mem_range] at hj
      refine ⟨unitL n j, unitL_len n j, ?_⟩
      congr 1
      exact List.map_congr_left fun r _ => (dot_unit n j hj r).symm
    | zero =>
      refine ⟨List.replicate n 0, by simp, ?_⟩
      rw [← List.replicate_append_replicate]
      congr 1
      rw [List.map_congr_left (g := fun _ => (0 : Int)) fun r _ => dot_zero n n r, List.map_const']
    | comb x y _ _ h1 h2 =>
      obtain ⟨u, hu, rfl⟩ := h1
      obtain ⟨v, hv, rfl⟩ := h2
      refine ⟨List.zipWith (fun a b => x * a + y * b) u v, by rw [zip_len _ _ _ (by omega)]; omega, ?_⟩
      rw [comb_app x y _ _ _ _ (by rw [List.length_map, List.length_map])]
      congr 1
      apply list_ext (by rw [zip_len _ _ _ (by rw [List.length_map, List.length_map]), List.length_map, List.length_map])
      intro i hi
      rw [zip_len _ _ _ (by rw [List.length_map, List.length_map]), List.length_map] at hi
      rw [zip_getD _ _ _ (by rw [List.length_map, List.length_map]) i (by rw [List.length_map]; exact hi), map_getD0 _ _ _ hi, map_getD0 _ _ _ hi, map_getD0 _ _ _ hi, dot_comb n _ u v x y hu hv]
  · rintro ⟨v, hv, rfl⟩
    refine gens_of_lat (tracedL_len ms n) (by rw [List.length_append, List.length_map, hv]) ⟨fun k => v.getD k 0, fun b hb => ?_⟩
    rw [tracedL_length]
    dsimp only
    by_cases hbm : b < ms.length
    · rw [getD_left _ _ _ (by rw [List.length_map]; exact hbm), map_getD0 _ _ _ hbm]
      unfold dotL
      refine sumN_congr fun k hk => ?_
      rw [tracedL_get _ _ _ hk, getD_left _ _ _ (by rw [List.length_map]; exact hbm), map_getD0 _ _ _ hbm, Int.mul_comm]
    · have e : b = ms.length + (b - ms.length) := by omega
      have g1 := getD_right (ms.map fun r => dotL n r v) v (b - ms.length)
      rw [List.length_map, ← e] at g1
      rw [g1]
      refine ((sumN_congr (g := fun k => v.getD k 0 * unitR k (b - ms.length)) fun k hk => ?_).trans (sum_unit n (fun k => v.getD k 0) (b - ms.length) (by omega))).symm
      have g2 := getD_right (ms.map fun r => r.getD k 0) (unitL n k) (b - ms.length)
      rw [List.length_map, ← e] at g2
      rw [tracedL_get _ _ _ hk, g2, unitL_get n k _ (by omega)]
      rfl

/-- The vectors that all rows make nought of. -/
theorem kernel_gens {ms ts : List (List Int)} {n : Nat} {p : Nat → Nat} (F : FormL (ms.length + n) ts p) (a : Alikes (ms.length + n) (InL ts) (InL (tracedL ms n))) {v : List Int} (hv : v.length = n) :
    Gens n (InL (behindL ms.length ts)) v ↔ ∀ r ∈ ms, dotL n r v = 0 := by
  rw [behind_gens F hv, a, traced_gens]
  constructor
  · rintro ⟨u, hu, e⟩
    have h := List.append_inj' e (by omega)
    obtain ⟨h1, rfl⟩ := h
    intro r hr
    have : dotL n r v ∈ ms.map fun r => dotL n r v := List.mem_map.2 ⟨r, hr, rfl⟩
    rw [← h1] at this
    exact List.eq_of_mem_replicate this
  · intro h
    refine ⟨v, hv, ?_⟩
    congr 1
    rw [List.map_congr_left (g := fun _ => (0 : Int)) fun r hr => h r hr, List.map_const']

theorem dot_gens {ms : List (List Int)} {n : Nat} {v : List Int} (h : ∀ r ∈ ms, dotL n r v = 0) {u : List Int} (hu : Gens n (InL ms) u) : dotL n u v = 0 := by
  induction hu with
  | base hr _ => exact h _ hr
  | zero => exact dot_zero_left n n v
  | comb x y g1 g2 h1 h2 => rw [dot_comb_left n v _ _ x y g1.len g2.len, h1, h2, Int.mul_zero, Int.mul_zero]; rfl

end Go.Proofs.Ytofegldopgkikaa
