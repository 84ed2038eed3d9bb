/- What rows make nought of: how much of it there is; of its places all is made. No Go in it. -/
import Derived.Test.YtofegldopgkikaaKerL
namespace Go.Proofs.Ytofegldopgkikaa
open Go.RowKit Limbs

/-- A row's number. -/
def ent (ts : List (List Int)) (k b : Nat) : Int := (ts.getD k []).getD b 0

theorem sumN_cut (c m : Nat) (f : Nat → Int) (h : ∀ k, c ≤ k → k < c + m → f k = 0) : sumN (c + m) f = sumN c f := by
  induction m with
  | zero => rfl
  | succ m ih =>
    have e : sumN (c + (m + 1)) f = sumN (c + m) f + f (c + m) := rfl
    rw [e, ih fun k h1 h2 => h k h1 (by omega), h (c + m) (by omega) (by omega), Int.add_zero]

/-- No more rows in the one form than rows that generate the same. -/
theorem form_le {n : Nat} {hs ks : List (List Int)} {p : Nat → Nat} (F : FormL n hs p) (a : Alikes n (InL hs) (InL ks)) : hs.length ≤ ks.length := by
  obtain ⟨C, hC⟩ := rows_coef (r := hs.length) (n := n) (mm := ks.length) (H := ent hs) (M := ent ks) fun k hk => by
    have hm : hs[k] ∈ hs := List.getElem_mem hk
    have g := lat_inL ((a hs[k]).1 (.base hm (F.len _ hm)))
    have e : ent hs k = fun b => hs[k].getD b 0 := by funext b; unfold ent; rw [getD_row hk]
    rw [e]; exact g
  exact rank_le hs.length ks.length n (ent hs) (ent ks) C p F.form.lt (fun i k hi hki => F.form.zero i (p k) hi (F.form.inc k i hki hi)) (fun i hi => F.form.pos i hi) hC

section
variable {hs ts : List (List Int)} {n : Nat} {ph p : Nat → Nat}

theorem traced_mem (hs : List (List Int)) (n j : Nat) (hj : j < n) : Gens (hs.length + n) (InL (tracedL hs n)) ((tracedL hs n).getD j []) :=
  .base (getD_mem (by rw [tracedL_length]; exact hj)) (tracedL_len hs n _ (getD_mem (by rw [tracedL_length]; exact hj)))

theorem traced_left (hs : List (List Int)) (n j b : Nat) (hj : j < n) (hb : b < hs.length) : ent (tracedL hs n) j b = ent hs b j := by
  unfold ent
  rw [tracedL_get hs n j hj, getD_left _ _ _ (by rw [List.length_map]; exact hb), map_getD0 _ _ _ hb]

theorem traced_right (hs : List (List Int)) (n j b : Nat) (hj : j < n) (hb : b < n) : ent (tracedL hs n) j (hs.length + b) = if b = j then 1 else 0 := by
  unfold ent
  have g := getD_right (hs.map fun r => r.getD j 0) (unitL n j) b
  rw [List.length_map] at g
  rw [tracedL_get hs n j hj, g, unitL_get n j b hb]

/-- As many as places. -/
theorem traced_count (F : FormL (hs.length + n) ts p) (a : Alikes (hs.length + n) (InL ts) (InL (tracedL hs n))) : ts.length = n := by
  have h1 := form_le F a
  rw [tracedL_length] at h1
  obtain ⟨C, hC⟩ := rows_coef (r := n) (n := hs.length + n) (mm := ts.length) (H := ent (tracedL hs n)) (M := ent ts) fun k hk => lat_inL ((a _).2 (traced_mem hs n k hk))
  have h2 := rank_le n ts.length (hs.length + n) (ent (tracedL hs n)) (ent ts) C (fun k => hs.length + k) (fun k hk => by omega)
    (fun i k hi hki => by rw [traced_right hs n i k hi (by omega), if_neg (by omega)]) (fun i hi => by rw [traced_right hs n i i hi hi, if_pos rfl]; exact Int.le_refl 1) hC
  omega

/-- As many of them begin ahead as there are rows. -/
theorem ahead_count (G : FormL n hs ph) (F : FormL (hs.length + n) ts p) (a : Alikes (hs.length + n) (InL ts) (InL (tracedL hs n))) {c : Nat} (hc : c ≤ ts.length) (h1 : ∀ k, k < c → p k < hs.length) (h2 : ∀ k, c ≤ k → k < ts.length → hs.length ≤ p k) : c = hs.length := by
  have hle : ∀ k, k < c → k ≤ p k := fun k => by
    induction k with
    | zero => exact fun _ => Nat.zero_le _
    | succ k ih => intro hk; have := ih (by omega); have := F.form.inc k (k + 1) (by omega) (by omega); omega
  have hc1 : c ≤ hs.length := by
    by_cases h0 : c = 0
    · omega
    · have := hle (c - 1) (by omega); have := h1 (c - 1) (by omega); omega
  obtain ⟨C, hC⟩ := rows_coef (r := hs.length) (n := hs.length) (mm := c) (H := fun i b => ent hs b (ph (hs.length - 1 - i))) (M := ent ts) fun i hi => by
    have hj : ph (hs.length - 1 - i) < n := G.form.lt _ (by omega)
    obtain ⟨d, hd⟩ := lat_inL ((a _).2 (traced_mem hs n _ hj))
    refine ⟨d, fun b hb => ?_⟩
    have e1 : ent (tracedL hs n) (ph (hs.length - 1 - i)) b = sumN ts.length (fun k => d k * ent ts k b) := hd b (by omega)
    rw [traced_left hs n _ b hj hb] at e1
    show ent hs b (ph (hs.length - 1 - i)) = _
    rw [e1, show ts.length = c + (ts.length - c) by omega]
    refine sumN_cut c _ _ fun k hk1 hk2 => ?_
    have h3 := h2 k hk1 (by omega)
    have e0 : ent ts k b = 0 := F.form.zero k b (by omega) (by omega)
    rw [e0, Int.mul_zero]
  have := rank_le hs.length c hs.length (fun i b => ent hs b (ph (hs.length - 1 - i))) (ent ts) C (fun k => hs.length - 1 - k) (fun k hk => by omega)
    (fun i k hi hki => G.form.zero (hs.length - 1 - k) (ph (hs.length - 1 - i)) (by omega) (G.form.inc _ _ (by omega) (by omega)))
    (fun i hi => G.form.pos (hs.length - 1 - i) (by omega)) hC
  omega

theorem behind_drop (F : FormL (hs.length + n) ts p) : ∃ c, c ≤ ts.length ∧ (∀ k, k < c → p k < hs.length) ∧ (∀ k, c ≤ k → k < ts.length → hs.length ≤ p k) ∧ behindL hs.length ts = (ts.drop c).map (·.drop hs.length) := by
  obtain ⟨c, h0, h1, h2, e⟩ := filter_cut (n := hs.length) F
  exact ⟨c, h0, h1, h2, by unfold behindL; rw [e]⟩

/-- What there is of it, and of the rows, together as many as places. -/
theorem kernel_count (G : FormL n hs ph) (F : FormL (hs.length + n) ts p) (a : Alikes (hs.length + n) (InL ts) (InL (tracedL hs n))) : (behindL hs.length ts).length + hs.length = n := by
  obtain ⟨c, h0, h1, h2, e⟩ := behind_drop F
  have hc := ahead_count G F a h0 h1 h2
  have ht := traced_count F a
  rw [e, List.length_map, List.length_drop]
  omega

/-- For each of its rows a vector of which that one makes 1, the others nought. -/
theorem kernel_dual (F : FormL (hs.length + n) ts p) (a : Alikes (hs.length + n) (InL ts) (InL (tracedL hs n))) (i : Nat) (hi : i < (behindL hs.length ts).length) :
    ∃ w : Nat → Int, ∀ l, l < (behindL hs.length ts).length → sumN n (fun j => ent (behindL hs.length ts) l j * w j) = if l = i then 1 else 0 := by
  obtain ⟨c, h0, h1, h2, e⟩ := behind_drop F
  have hlen : (behindL hs.length ts).length = ts.length - c := by rw [e, List.length_map, List.length_drop]
  have hD : ∀ j, j < n → ∀ b, b < hs.length + n → ent (tracedL hs n) j b = sumN ts.length (fun k => (muchL ts p ((tracedL hs n).getD j [])).getD k 0 * ent ts k b) := fun j hj => by
    have hl := tracedL_len hs n _ (getD_mem (hs := tracedL hs n) (k := j) (by rw [tracedL_length]; exact hj))
    exact much_sum F hl (lat_inL ((a _).2 (traced_mem hs n j hj)))
  refine ⟨fun j => (muchL ts p ((tracedL hs n).getD j [])).getD (c + i) 0, fun l hl => ?_⟩
  rw [hlen] at hl hi
  have hcl : c + l < ts.length := by omega
  have hm := getD_mem hcl
  obtain ⟨v, hv, ez⟩ := (traced_gens hs n _).1 ((a _).1 (.base hm (F.len _ hm)))
  have hvk : ∀ j, ent (behindL hs.length ts) l j = v.getD j 0 := fun j => by
    unfold ent
    rw [e, behind_get l j hcl, ez]
    have g := getD_right (hs.map fun r => dotL n r v) v j
    rw [List.length_map] at g
    exact g
  have hz : ∀ b, b < hs.length + n → ent ts (c + l) b = sumN n (fun j => v.getD j 0 * ent (tracedL hs n) j b) := fun b hb => by
    unfold ent
    rw [ez]
    by_cases hbm : b < hs.length
    · rw [getD_left _ _ _ (by rw [List.length_map]; exact hbm), map_getD0 _ _ _ hbm]
      unfold dotL
      refine sumN_congr fun k hk => ?_
      have := traced_left hs n k b hk hbm
      unfold ent at this
      rw [this, Int.mul_comm]
    · have eb : b = hs.length + (b - hs.length) := by omega
      have g1 := getD_right (hs.map fun r => dotL n r v) v (b - hs.length)
      rw [List.length_map, ← eb] at g1
      rw [g1]
      refine ((sumN_congr (g := fun k => v.getD k 0 * unitR k (b - hs.length)) fun k hk => ?_).trans (sum_unit n (fun k => v.getD k 0) (b - hs.length) (by omega))).symm
      have := traced_right hs n k (b - hs.length) hk (by omega)
      rw [← eb] at this
      unfold ent at this
      rw [this]; rfl
  have hsum : ∀ b, b < hs.length + n → ent ts (c + l) b = sumN ts.length (fun k => sumN n (fun j => v.getD j 0 * (muchL ts p ((tracedL hs n).getD j [])).getD k 0) * ent ts k b) := fun b hb => by
    rw [hz b hb]
    have e1 : sumN n (fun j => v.getD j 0 * ent (tracedL hs n) j b) = sumN n (fun j => sumN ts.length (fun k => v.getD j 0 * ((muchL ts p ((tracedL hs n).getD j [])).getD k 0 * ent ts k b))) :=
      sumN_congr fun j hj => by rw [hD j hj b hb, sumN_mul]
    rw [e1, sumN_swap]
    refine sumN_congr fun k _ => ?_
    rw [Int.mul_comm, ← sumN_mul]
    refine sumN_congr fun j _ => ?_
    rw [← Int.mul_assoc, Int.mul_comm]
  have m1 := much_one F (zs := ts.getD (c + l) []) (ds := (List.range ts.length).map fun k => sumN n (fun j => v.getD j 0 * (muchL ts p ((tracedL hs n).getD j [])).getD k 0)) (F.len _ hm) (by simp) fun b hb => by
    have := hsum b hb
    unfold ent at this
    rw [this]
    exact sumN_congr fun k hk => by rw [range_getD _ _ k hk]
  have m2 := much_one F (zs := ts.getD (c + l) []) (ds := unitL ts.length (c + l)) (F.len _ hm) (unitL_len _ _) fun b hb => by
    refine ((sumN_single ts.length (c + l) hcl _ fun k hk hne => ?_).trans ?_).symm
    · rw [unitL_get _ _ k hk, if_neg hne, Int.zero_mul]
    · rw [unitL_get _ _ _ hcl, if_pos rfl, Int.one_mul]
  have m3 := congrArg (fun x : List Int => x.getD (c + i) 0) (m1.symm.trans m2)
  rw [range_getD _ _ (c + i) (by omega), unitL_get _ _ (c + i) (by omega)] at m3
  have e3 : sumN n (fun j => ent (behindL hs.length ts) l j * (muchL ts p ((tracedL hs n).getD j [])).getD (c + i) 0) = sumN n (fun j => v.getD j 0 * (muchL ts p ((tracedL hs n).getD j [])).getD (c + i) 0) := sumN_congr fun j _ => by rw [hvk j]
  rw [e3, m3]
  by_cases hli : l = i
  · rw [if_pos (by omega), if_pos hli]
  · rw [if_neg (by omega), if_neg hli]

end

/-- Places as rows. -/
def colsL (ks : List (List Int)) (n : Nat) : List (List Int) := (List.range n).map fun j => ks.map fun r => r.getD j 0

theorem colsL_length (ks : List (List Int)) (n : Nat) : (colsL ks n).length = n := by simp [colsL]

theorem colsL_len (ks : List (List Int)) (n : Nat) : ∀ r ∈ colsL ks n, r.length = ks.length := fun r hr => by
  obtain ⟨j, -, rfl⟩ := List.mem_map.1 hr
  rw [List.length_map]

theorem colsL_get (ks : List (List Int)) (n j : Nat) (hj : j < n) : (colsL ks n).getD j [] = ks.map fun r => r.getD j 0 := by
  rw [getD_row (by rw [colsL_length]; exact hj)]
  simp [colsL]

/-- Units as rows. -/
def idL (r : Nat) : List (List Int) := (List.range r).map (unitL r)

theorem idL_length (r : Nat) : (idL r).length = r := by simp [idL]

theorem idL_get (r k : Nat) (hk : k < r) : (idL r).getD k [] = unitL r k := by
  rw [getD_row (by rw [idL_length]; exact hk)]
  simp [idL]

theorem idL_form (r : Nat) : FormL r (idL r) (fun k => k) := by
  refine ⟨fun u hu => ?_, ?_⟩
  · obtain ⟨k, -, rfl⟩ := List.mem_map.1 hu
    exact unitL_len r k
  · rw [idL_length]
    refine ⟨fun i k h _ => h, fun i h => h, fun i b hi hb => ?_, fun i hi => ?_, fun i k hik hk => ?_⟩
    · show ((idL r).getD i []).getD b 0 = 0
      rw [idL_get r i hi, unitL_get r i b (by omega), if_neg (by omega)]
    · show 0 < ((idL r).getD i []).getD i 0
      rw [idL_get r i hi, unitL_get r i i hi, if_pos rfl]; decide
    · show 0 ≤ ((idL r).getD i []).getD k 0 ∧ ((idL r).getD i []).getD k 0 < ((idL r).getD k []).getD k 0
      rw [idL_get r i (by omega), idL_get r k hk, unitL_get r i k hk, unitL_get r k k hk, if_neg (by omega), if_pos rfl]; decide

theorem idL_all (r : Nat) (u : List Int) (hu : u.length = r) : Gens r (InL (idL r)) u := by
  refine gens_of_lat (idL_form r).len hu ⟨fun k => u.getD k 0, fun b hb => ?_⟩
  rw [idL_length]
  refine ((sumN_congr (g := fun k => u.getD k 0 * unitR k b) fun k hk => ?_).trans (sum_unit r (fun k => u.getD k 0) b hb)).symm
  show u.getD k 0 * ((idL r).getD k []).getD b 0 = _
  rw [idL_get r k hk, unitL_get r k b hb]; rfl

/-- Its places make all. -/
theorem cols_one {ks fs : List (List Int)} {n : Nat} {q : Nat → Nat} (hd : ∀ i, i < ks.length → ∃ w : Nat → Int, ∀ l, l < ks.length → sumN n (fun j => ent ks l j * w j) = if l = i then 1 else 0)
    (F : FormL ks.length fs q) (a : Alikes ks.length (InL fs) (InL (colsL ks n))) : fs = idL ks.length := by
  refine formL_one F (idL_form _) fun u => ⟨fun h => idL_all _ u h.len, fun h => (a u).2 ?_⟩
  have hu := h.len
  let W : Nat → Nat → Int := fun i => if hi : i < ks.length then Classical.choose (hd i hi) else fun _ => 0
  have hW : ∀ i, i < ks.length → ∀ l, l < ks.length → sumN n (fun j => ent ks l j * W i j) = if l = i then 1 else 0 := fun i hi => by
    have := Classical.choose_spec (hd i hi)
    simpa only [W, dif_pos hi] using this
  refine gens_of_lat (colsL_len ks n) hu ⟨fun j => sumN ks.length (fun i => u.getD i 0 * W i j), fun b hb => ?_⟩
  rw [colsL_length]
  dsimp only
  have e1 : sumN n (fun k => sumN ks.length (fun i => u.getD i 0 * W i k) * ((colsL ks n).getD k []).getD b 0) = sumN n (fun k => sumN ks.length (fun i => u.getD i 0 * (ent ks b k * W i k))) := sumN_congr fun k hk => by
    rw [colsL_get ks n k hk, map_getD0 _ _ _ hb, Int.mul_comm, ← sumN_mul]
    exact sumN_congr fun i _ => by unfold ent; rw [Int.mul_left_comm]
  rw [e1, sumN_swap]
  refine ((sumN_congr (g := fun i => u.getD i 0 * unitR i b) fun i hi => ?_).trans (sum_unit ks.length (fun i => u.getD i 0) b hb)).symm
  rw [sumN_mul, hW i hi b hb]; rfl

/-- If there is nothing but one number in each, that is 1. -/
theorem alone_one {ks : List (List Int)} {n : Nat} {q : Nat → Nat} (hd : ∀ i, i < ks.length → ∃ w : Nat → Int, ∀ l, l < ks.length → sumN n (fun j => ent ks l j * w j) = if l = i then 1 else 0)
    (F : FormL n ks q) (k : Nat) (hk : k < ks.length) (h0 : ∀ b, b < n → b ≠ q k → ent ks k b = 0) : ent ks k (q k) = 1 := by
  obtain ⟨w, hw⟩ := hd k hk
  have h1 := hw k hk
  rw [if_pos rfl, sumN_single n (q k) (F.form.lt k hk) _ fun b hb hne => by rw [h0 b hb hne, Int.zero_mul]] at h1
  have hpos : 0 < ent ks k (q k) := F.form.pos k hk
  by_cases h2 : ent ks k (q k) = 1
  · exact h2
  · rcases Int.lt_or_le 0 (w (q k)) with hp | hp
    · have := Int.mul_le_mul_of_nonneg_left (show 1 ≤ w (q k) by omega) (show 0 ≤ ent ks k (q k) by omega)
      omega
    · have := Int.mul_le_mul_of_nonneg_left hp (show 0 ≤ ent ks k (q k) by omega)
      omega

end Go.Proofs.Ytofegldopgkikaa
