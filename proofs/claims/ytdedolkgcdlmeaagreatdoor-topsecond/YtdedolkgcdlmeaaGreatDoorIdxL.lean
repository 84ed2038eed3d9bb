/- How many classes: the product of invariants is multiplied. No Go in it. -/
import Derived.Test.YtdedolkgcdlmeaaGreatDoorSmT
namespace Go.Proofs.YtdedolkgcdlmeaaGreatDoor
open Go.RowKit Limbs

/-- How much of each row of the second ones each of the first ones is. -/
def muchM (hs ks : List (List Int)) (p : Nat → Nat) : List (List Int) := hs.map (muchL ks p)

theorem muchM_length (hs ks : List (List Int)) (p : Nat → Nat) : (muchM hs ks p).length = hs.length := by simp [muchM]

theorem muchM_len (hs ks : List (List Int)) (p : Nat → Nat) : ∀ r ∈ muchM hs ks p, r.length = ks.length := fun r hr => by
  obtain ⟨u, -, rfl⟩ := List.mem_map.1 hr
  exact muchL_len ks p u

theorem muchM_get (hs ks : List (List Int)) (p : Nat → Nat) (i : Nat) (hi : i < hs.length) : (muchM hs ks p).getD i [] = muchL ks p (hs.getD i []) := by
  rw [getD_row (by rw [muchM_length]; exact hi), getD_row hi]
  simp [muchM]

section
variable {n : Nat} {hs ks : List (List Int)} {ph pk : Nat → Nat}

/-- The first ones are so much of the second ones. -/
theorem much_rows (G : FormL n ks pk) (hl : ∀ r ∈ hs, r.length = n) (hin : ∀ r ∈ hs, Gens n (InL ks) r) (i b : Nat) (hi : i < hs.length) (hb : b < n) : ent hs i b = sumN ks.length (fun k => ent (muchM hs ks pk) i k * ent ks k b) := by
  have hm : hs.getD i [] ∈ hs := getD_mem hi
  have := much_sum G (hl _ hm) (lat_inL (hin _ hm)) b hb
  unfold ent
  rw [this, muchM_get hs ks pk i hi]

/-- As many invariants fa rows of the lesser one. -/
theorem much_rank (F : FormL n hs ph) (G : FormL n ks pk) (hin : ∀ r ∈ hs, Gens n (InL ks) r) {fa : List (List Int)} {pa : Nat → Nat} (A : FormL ks.length fa pa) (a : Alikes ks.length (InL fa) (InL (muchM hs ks pk))) : fa.length = hs.length := by
  have h1 := form_le A a
  rw [muchM_length] at h1
  obtain ⟨T, hT⟩ := rows_coef (r := hs.length) (n := ks.length) (mm := fa.length) (H := ent (muchM hs ks pk)) (M := ent fa) fun i hi => by
    have hm : (muchM hs ks pk).getD i [] ∈ muchM hs ks pk := getD_mem (by rw [muchM_length]; exact hi)
    exact lat_inL ((a _).2 (.base hm (muchM_len hs ks pk _ hm)))
  have h2 := rank_le hs.length fa.length n (ent hs) (fun k b => sumN ks.length (fun j => ent fa k j * ent ks j b)) T ph F.form.lt (fun i k hi hki => F.form.zero i (ph k) hi (F.form.inc k i hki hi)) (fun i hi => F.form.pos i hi)
    (fun i b hi hb => by
      rw [much_rows G F.len hin i b hi hb]
      have e1 : sumN ks.length (fun k => ent (muchM hs ks pk) i k * ent ks k b) = sumN ks.length (fun k => sumN fa.length (fun j => T i j * (ent fa j k * ent ks k b))) := sumN_congr fun k hk => by
        rw [hT i k hi hk, Int.mul_comm, ← sumN_mul]
        exact sumN_congr fun j _ => by rw [Int.mul_comm, Int.mul_assoc]
      rw [e1, sumN_swap]
      exact sumN_congr fun j _ => by rw [sumN_mul])
  omega

/-- Rows of as many places: what is made of them is their form's product, but for its sign. -/
theorem det_diag {r : Nat} {A fa : List (List Int)} (hA : A.length = r) (hl : ∀ u ∈ A, u.length = r) (S : Sq r fa) (a : Alikes r (InL fa) (InL A)) : absI (det r (ent A)) = diag r fa := by
  obtain ⟨C, hC⟩ := rows_coef (r := r) (n := r) (mm := r) (H := ent fa) (M := ent A) fun k hk => by
    have hm : fa.getD k [] ∈ fa := getD_mem (by rw [S.len]; exact hk)
    have g := lat_inL ((a _).1 (.base hm (S.form.len _ hm)))
    rw [hA] at g
    exact g
  obtain ⟨T, hT⟩ := rows_coef (r := r) (n := r) (mm := r) (H := ent A) (M := ent fa) fun k hk => by
    have hm : A.getD k [] ∈ A := getD_mem (by rw [hA]; exact hk)
    have g := lat_inL ((a _).2 (.base hm (hl _ hm)))
    rw [S.len] at g
    exact g
  have d1 : det r (ent fa) = diag r fa := det_tri r _ fun i b hi hb => S.low hi hb
  have e1 : diag r fa = det r C * det r (ent A) := by
    rw [← d1, ← det_mul]
    exact det_congr fun x y hx hy => hC x y hx hy
  have e2 : det r (ent A) = det r T * diag r fa := by
    rw [← d1, ← det_mul]
    exact det_congr fun x y hx hy => hT x y hx hy
  have o := S.one_le
  have a1 := congrArg absI e1; have a2 := congrArg absI e2
  rw [absI_mul, absI_of_nonneg (show 0 ≤ diag r fa by omega)] at a1 a2
  have n1 := absI_nonneg (det r C); have n2 := absI_nonneg (det r T); have n3 := absI_nonneg (det r (ent A))
  have c1 : 1 ≤ absI (det r C) := by
    rcases Int.lt_or_eq_of_le n1 with h | h
    · omega
    · rw [← h, Int.zero_mul] at a1; omega
  have hA1 : 1 ≤ absI (det r (ent A)) := by
    rcases Int.lt_or_eq_of_le n3 with h | h
    · omega
    · rw [← h, Int.mul_zero] at a1; omega
  have c2 : 1 ≤ absI (det r T) := by
    rcases Int.lt_or_eq_of_le n2 with h | h
    · omega
    · rw [← h, Int.zero_mul] at a2; omega
  have g1 := Int.mul_le_mul_of_nonneg_right c1 n3
  have g2 := Int.mul_le_mul_of_nonneg_right c2 (show 0 ≤ diag r fa by omega)
  omega

end

theorem absI_sumN (n : Nat) (f g : Nat → Int) (h : ∀ i, i < n → absI (f i) ≤ g i) : absI (sumN n f) ≤ sumN n g := by
  induction n with
  | zero => exact Int.le_refl _
  | succ n ih =>
    have h1 := ih fun i hi => h i (by omega)
    have h2 := h n (by omega)
    have h3 := absI_add (sumN n f) (f n)
    show absI (sumN n f + f n) ≤ sumN n g + g n
    omega

theorem sum_pow (k : Nat) (B : Int) : sumN k (fun j => 2 ^ j * B) = 2 ^ k * B - B := by
  induction k with
  | zero => show (0 : Int) = 2 ^ 0 * B - B; rw [Int.pow_zero, Int.one_mul]; omega
  | succ k ih =>
    show sumN k (fun j => 2 ^ j * B) + 2 ^ k * B = 2 ^ (k + 1) * B - B
    rw [ih, Int.pow_succ, Int.mul_comm (2 ^ k) 2, Int.mul_assoc]
    omega

/-- How much of each row something is, is not much more than it. -/
theorem much_bound {n : Nat} {ks : List (List Int)} {pk : Nat → Nat} (G : FormL n ks pk) {zs : List Int} (hz : zs.length = n) (hin : Gens n (InL ks) zs) {B : Int} (hB : ∀ b, b < n → absI (zs.getD b 0) ≤ B) (k : Nat) (hk : k < ks.length) : absI ((muchL ks pk zs).getD k 0) ≤ 2 ^ k * B := by
  induction k using Nat.strongRecOn with
  | _ k ih =>
    have hs := much_sum G hz (lat_inL hin) (pk k) (G.form.lt k hk)
    have hq := G.form.pos k hk
    rw [show ks.length = (k + 1) + (ks.length - (k + 1)) by omega, sumN_cut (k + 1) _ _ fun j h1 h2 => by
      have : (ks.getD j []).getD (pk k) 0 = 0 := G.form.zero j (pk k) (by omega) (G.form.inc k j (by omega) (by omega))
      rw [this, Int.mul_zero]] at hs
    have e1 : sumN (k + 1) (fun j => (muchL ks pk zs).getD j 0 * (ks.getD j []).getD (pk k) 0) = sumN k (fun j => (muchL ks pk zs).getD j 0 * (ks.getD j []).getD (pk k) 0) + (muchL ks pk zs).getD k 0 * (ks.getD k []).getD (pk k) 0 := rfl
    rw [e1] at hs
    have hB0 := hB (pk k) (G.form.lt k hk)
    have hBn : 0 ≤ B := Int.le_trans (absI_nonneg _) hB0
    generalize hqq : (ks.getD k []).getD (pk k) 0 = q at *
    have hlow : absI (sumN k (fun j => (muchL ks pk zs).getD j 0 * (ks.getD j []).getD (pk k) 0)) ≤ (2 ^ k * B - B) * q := by
      refine Int.le_trans (absI_sumN k _ (fun j => q * (2 ^ j * B)) fun j hj => ?_) ?_
      · rw [absI_mul]
        have h1 := ih j hj (by omega)
        have h2 := G.form.red j k hj hk
        rw [hqq] at h2
        rw [absI_of_nonneg h2.1, Int.mul_comm q]
        exact Int.mul_le_mul h1 (Int.le_of_lt h2.2) h2.1 (Int.le_trans (absI_nonneg _) h1)
      · rw [sumN_mul, sum_pow, Int.mul_comm]; exact Int.le_refl _
    have e2 : (muchL ks pk zs).getD k 0 * q = zs.getD (pk k) 0 + -(sumN k (fun j => (muchL ks pk zs).getD j 0 * (ks.getD j []).getD (pk k) 0)) := by omega
    have h3 := absI_add (zs.getD (pk k) 0) (-(sumN k (fun j => (muchL ks pk zs).getD j 0 * (ks.getD j []).getD (pk k) 0)))
    rw [← e2, absI_mul, absI_neg, absI_of_nonneg (Int.le_of_lt hq)] at h3
    have h4 : B ≤ B * q := by
      have := Int.mul_le_mul_of_nonneg_left (show 1 ≤ q by omega) hBn
      omega
    have h5 : absI ((muchL ks pk zs).getD k 0) * q ≤ 2 ^ k * B * q := by
      rw [Int.sub_mul] at hlow
      omega
    exact Int.le_of_mul_le_mul_right h5 hq

def prodL : List Int → Int
  | [] => 1
  | x :: t => x * prodL t

theorem prodL_snoc (l : List Int) (x : Int) : prodL (l ++ [x]) = prodL l * x := by
  induction l with
  | nil => show x * 1 = 1 * x; rw [Int.mul_one, Int.one_mul]
  | cons y t ih => show y * prodL (t ++ [x]) = y * prodL t * x; rw [ih, Int.mul_assoc]

theorem prodN_take (l : List Int) (k : Nat) (hk : k ≤ l.length) : prodN k (fun j => l.getD j 0) = prodL (l.take k) := by
  induction k with
  | zero => rfl
  | succ k ih =>
    rw [prodN, ih (by omega), List.take_succ_eq_append_getElem (by omega), prodL_snoc, List.getD_eq_getElem?_getD, List.getElem?_eq_getElem (by omega), Option.getD_some]

theorem prodL_filter (l : List Int) (h : ∀ x ∈ l, 0 < x) : prodL (l.filter fun y => decide (1 < y)) = prodL l := by
  induction l with
  | nil => rfl
  | cons x t ih =>
    have h0 := h x (by simp)
    have h1 := ih fun y hy => h y (by simp [hy])
    by_cases e : 1 < x
    · rw [List.filter_cons_of_pos (by simpa using e)]
      show x * prodL _ = x * prodL t
      rw [h1]
    · obtain rfl : x = 1 := by omega
      rw [List.filter_cons_of_neg (by simp)]
      show prodL _ = 1 * prodL t
      rw [h1, Int.one_mul]

end Go.Proofs.YtdedolkgcdlmeaaGreatDoor
