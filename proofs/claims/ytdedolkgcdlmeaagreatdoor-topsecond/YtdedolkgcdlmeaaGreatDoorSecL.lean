/- Two tables that say the same of classes have the same invariants, but for ones. No Go in it. -/
import Derived.Test.YtdedolkgcdlmeaaGreatDoorSmW
import Derived.Test.YtdedolkgcdlmeaaGreatDoorIdxA
namespace Go.Proofs.YtdedolkgcdlmeaaGreatDoor
open Go.RowKit Limbs

/-- One place and one row more: one. -/
def oneM (m n : Nat) (A : Nat → Nat → Int) : Nat → Nat → Int := fun i j => if i = m then (if j = n then 1 else 0) else if j = n then 0 else A i j

theorem lt_ite {k m i : Nat} {f : Nat → Nat} (hf : ∀ i, i < k → f i < m) (_ : i < k + 1) : (if i < k then f i else m) < m + 1 := by
  split
  · have := hf i (by assumption); omega
  · omega

section
variable {k m n : Nat} {A : Nat → Nat → Int} {g : Int}

theorem dv_one_up (h : Dv (k + 1) (m + 1) (n + 1) (oneM m n A) g) : Dv k m n A g := fun f c hf hc => by
  have h1 := h (fun i => if i < k then f i else m) (fun i => if i < k then c i else n) (fun i hi => lt_ite hf hi) (fun i hi => lt_ite hc hi)
  rw [det, sumN_single (k + 1) k (by omega)] at h1
  · have e1 : oneM m n A (if k < k then f k else m) (if k < k then c k else n) = 1 := by
      rw [if_neg (Nat.lt_irrefl k), if_neg (Nat.lt_irrefl k)]; unfold oneM; rw [if_pos rfl, if_pos rfl]
    have e2 : sgnN (k + k) = 1 := by unfold sgnN; rw [if_pos (by omega)]
    have e3 : det k (fun a b => oneM m n A (if a < k then f a else m) (if sk k b < k then c (sk k b) else n)) = det k (fun a b => A (f a) (c b)) := det_congr fun a b ha hb => by
      rw [if_pos ha, sk_lt hb, if_pos hb]
      have h2 := hf a ha; have h3 := hc b hb
      unfold oneM
      rw [if_neg (by omega), if_neg (by omega)]
    rw [e1, e2, e3, Int.one_mul, Int.one_mul] at h1
    exact h1
  · intro j hj hne
    have h3 := hc j (by omega)
    have e : oneM m n A (if k < k then f k else m) (if j < k then c j else n) = 0 := by
      rw [if_neg (Nat.lt_irrefl k), if_pos (by omega)]; unfold oneM; rw [if_pos rfl, if_neg (by omega)]
    rw [e, Int.mul_zero, Int.zero_mul]

theorem dv_one_dn (h : Dv k m n A g) : Dv (k + 1) (m + 1) (n + 1) (oneM m n A) g := by
  have c1 : ∀ f c : Nat → Nat, (∀ i, i < k → f i < m) → (∀ i, i < k → c i < n + 1) → g ∣ det k (fun a b => oneM m n A (f a) (c b)) := fun f c hf hc => by
    by_cases hex : ∃ b, b < k ∧ c b = n
    · obtain ⟨b, hb, e⟩ := hex
      rw [det_col_zero k _ b hb fun a ha => by
        have := hf a ha
        unfold oneM
        rw [if_neg (by omega), if_pos e]]
      exact Int.dvd_zero g
    · rw [det_congr (M' := fun a b => A (f a) (c b)) fun a b ha hb => by
        have h1 := hf a ha
        have h2 : c b ≠ n := fun e => hex ⟨b, hb, e⟩
        unfold oneM
        rw [if_neg (by omega), if_neg h2]]
      exact h f c hf fun i hi => by
        have h1 := hc i hi
        have h2 : c i ≠ n := fun e => hex ⟨i, hi, e⟩
        omega
  have main : ∀ f c : Nat → Nat, (∀ i, i < k → f i < m) → (∀ i, i < k + 1 → c i < n + 1) → g ∣ det (k + 1) (fun a b => oneM m n A (f a) (c b)) := fun f c hf hc => by
    rw [det]
    refine dvd_sumN (k + 1) _ fun j hj => ?_
    obtain ⟨x, hx⟩ := c1 f (fun b => c (sk j b)) hf fun i hi => hc _ (by unfold sk; split <;> omega)
    rw [hx]
    exact ⟨sgnN (k + j) * oneM m n A (f k) (c j) * x, by ac_rfl⟩
  intro f c hf hc
  by_cases hex : ∃ a, a < k ∧ f a = m
  · obtain ⟨a, ha, e⟩ := hex
    by_cases htwo : ∃ b, b < k + 1 ∧ b ≠ a ∧ f b = m
    · obtain ⟨b, hb, hne, e2⟩ := htwo
      have hz : det (k + 1) (fun a b => oneM m n A (f a) (c b)) = 0 := by
        rcases Nat.lt_or_gt_of_ne hne with hl | hl
        · exact det_alt (k + 1) _ b a hl (by omega) fun q => by rw [e, e2]
        · exact det_alt (k + 1) _ a b hl hb fun q => by rw [e, e2]
      rw [hz]
      exact Int.dvd_zero g
    · have h1 := main (fun i => f (sw a k i)) c (fun i hi => by
        show f (sw a k i) < m
        have hne : f (sw a k i) ≠ m := fun e3 => htwo ⟨sw a k i, by unfold sw; split <;> (try split) <;> omega, by unfold sw; split <;> (try split) <;> omega, e3⟩
        have := hf (sw a k i) (by unfold sw; split <;> (try split) <;> omega)
        omega) hc
      have h2 : det (k + 1) (fun i b => oneM m n A (f (sw a k i)) (c b)) = - det (k + 1) (fun i b => oneM m n A (f i) (c b)) := by
        rw [← det_swap (k + 1) _ a k ha (by omega)]
        exact det_congr fun i b _ _ => by rw [swapRows_sw]
      rw [h2] at h1
      exact Int.dvd_neg.1 h1
  · exact main f c (fun i hi => by
      have h1 := hf i (by omega)
      have h2 : f i ≠ m := fun e => hex ⟨i, hi, e⟩
      omega) hc

end

/-- A table, and ones behind it. -/
def bl (b a : Nat) (A : Nat → Nat → Int) : Nat → Nat → Int := fun i j => if i < b then (if j < a then A i j else 0) else if j < a then 0 else if i - b = j - a then 1 else 0

theorem dv_bl (k b a : Nat) (A : Nat → Nat → Int) (g : Int) : ∀ c, Dv (k + c) (b + c) (a + c) (bl b a A) g ↔ Dv k b a A g := fun c => by
  induction c with
  | zero =>
    have e : ∀ i j, i < b → j < a → bl b a A i j = A i j := fun i j hi hj => by unfold bl; rw [if_pos hi, if_pos hj]
    exact ⟨fun h => h.congr fun i j hi hj => (e i j hi hj).symm, fun h => h.congr e⟩
  | succ c ih =>
    have e : ∀ i j, i < b + c + 1 → j < a + c + 1 → bl b a A i j = oneM (b + c) (a + c) (bl b a A) i j := fun i j hi hj => by
      unfold oneM
      by_cases h1 : i = b + c
      · rw [if_pos h1]
        unfold bl
        rw [if_neg (by omega)]
        by_cases h2 : j = a + c
        · rw [if_pos h2, if_neg (by omega), if_pos (by omega)]
        · rw [if_neg h2]
          split
          · rfl
          · rw [if_neg (by omega)]
      · rw [if_neg h1]
        by_cases h2 : j = a + c
        · rw [if_pos h2]
          unfold bl
          split
          · rw [if_neg (by omega)]
          · rw [if_neg (by omega), if_neg (by omega)]
        · rw [if_neg h2]
    rw [← ih]
    exact ⟨fun h => dv_one_up (h.congr fun i j hi hj => (e i j hi hj).symm), fun h => (dv_one_dn h).congr e⟩

def catN (a : Nat) (v u : Nat → Int) : Nat → Int := fun j => if j < a then v j else u (j - a)

theorem sumN_cat (a : Nat) (f : Nat → Int) : ∀ c, sumN (a + c) f = sumN a f + sumN c (fun l => f (a + l)) := fun c => by
  induction c with
  | zero => rw [sumN, Int.add_zero]; rfl
  | succ c ih => rw [sumN, ← Int.add_assoc, ← ih]; rfl

theorem sumN_delta (c q : Nat) (hq : q < c) (u : Nat → Int) : sumN c (fun l => u l * (if l = q then 1 else 0)) = u q := by
  rw [sumN_single c q hq _ fun i _ hne => by rw [if_neg hne, Int.mul_zero], if_pos rfl, Int.mul_one]

theorem lat_bl {b a c : Nat} {A : Nat → Nat → Int} {v u : Nat → Int} (hv : Lat b a A v) : Lat (b + c) (a + c) (bl b a A) (catN a v u) := by
  obtain ⟨κ, hκ⟩ := hv
  refine ⟨catN b κ u, fun j hj => ?_⟩
  rw [sumN_cat]
  by_cases h : j < a
  · have e1 : sumN c (fun l => catN b κ u (b + l) * bl b a A (b + l) j) = 0 := by
      rw [← sumN_zero c]
      exact sumN_congr fun l _ => by unfold bl; rw [if_neg (by omega), if_pos h, Int.mul_zero]
    rw [e1, Int.add_zero]
    unfold catN
    rw [if_pos h, hκ j h]
    exact sumN_congr fun k hk => by rw [if_pos hk]; unfold bl; rw [if_pos hk, if_pos h]
  · have e1 : sumN b (fun k => catN b κ u k * bl b a A k j) = 0 := by
      rw [← sumN_zero b]
      exact sumN_congr fun k hk => by unfold bl; rw [if_pos hk, if_neg h, Int.mul_zero]
    rw [e1, Int.zero_add]
    have e2 : sumN c (fun l => catN b κ u (b + l) * bl b a A (b + l) j) = sumN c (fun l => u l * (if l = j - a then 1 else 0)) := sumN_congr fun l _ => by
      unfold catN bl
      rw [if_neg (by omega), if_neg (by omega), if_neg h, Nat.add_sub_cancel_left]
    rw [e2, sumN_delta c (j - a) (by omega)]
    unfold catN
    rw [if_neg h]

theorem Dv.map {k m n m' n' : Nat} {A B R : Nat → Nat → Int} {g : Int} (h : Dv k m n A g) (e : ∀ i, i < m' → ∃ v, Lat m n A v ∧ ∀ j, j < n' → B i j = sumN n (fun l => v l * R l j)) : Dv k m' n' B g := by
  obtain ⟨V, hV⟩ : ∃ V : Nat → Nat → Int, ∀ i, i < m' → Lat m n A (V i) ∧ ∀ j, j < n' → B i j = sumN n (fun l => V i l * R l j) :=
    ⟨fun i => if hi : i < m' then Classical.choose (e i hi) else fun _ => 0, fun i hi => by dsimp only; rw [dif_pos hi]; exact Classical.choose_spec (e i hi)⟩
  obtain ⟨C, hC⟩ := rows_coef (r := m') (n := n) (mm := m) (H := V) (M := A) fun i hi => (hV i hi).1
  exact (h.left (B := V) (T := C) fun x y hx hy => hC x y hx hy).right (V := R) fun x y hx hy => (hV x hx).2 y hy

/-- What the classes' tables are turned by. -/
def RM (a c : Nat) (T P : Nat → Nat → Int) : Nat → Nat → Int := fun l j => if l < a then (if j < c then - T l j else if l = j - c then 1 else 0) else if j < c then (if l - a = j then 1 else 0) - sumN a (fun q => P (l - a) q * T q j) else P (l - a) (j - c)

theorem rm_apply (a c : Nat) (T P : Nat → Nat → Int) (v u : Nat → Int) (j : Nat) (hj : j < c + a) :
    sumN (a + c) (fun l => catN a v u l * RM a c T P l j) = catN c (fun l => u l - sumN a (fun q => (v q + sumN c (fun m => u m * P m q)) * T q l)) (fun q => v q + sumN c (fun m => u m * P m q)) j := by
  rw [sumN_cat]
  by_cases h : j < c
  · have e1 : sumN a (fun l => catN a v u l * RM a c T P l j) = - sumN a (fun q => v q * T q j) := by
      rw [← sumN_neg]
      exact sumN_congr fun l hl => by unfold catN RM; rw [if_pos hl, if_pos hl, if_pos h, Int.mul_neg]
    have e2 : sumN c (fun l => catN a v u (a + l) * RM a c T P (a + l) j) = u j + - sumN a (fun q => sumN c (fun m => u m * P m q) * T q j) := by
      have e3 : sumN c (fun l => catN a v u (a + l) * RM a c T P (a + l) j) = sumN c (fun l => u l * (if l = j then 1 else 0) + - (u l * sumN a (fun q => P l q * T q j))) := sumN_congr fun l _ => by
        unfold catN RM
        rw [if_neg (by omega), if_neg (by omega), if_pos h, Nat.add_sub_cancel_left, Int.mul_sub, Int.sub_eq_add_neg]
      rw [e3, sumN_add, sumN_delta c j h, sumN_neg]
      congr 2
      have e4 : sumN c (fun l => u l * sumN a (fun q => P l q * T q j)) = sumN c (fun l => sumN a (fun q => u l * (P l q * T q j))) := sumN_congr fun l _ => (sumN_mul a (u l) _).symm
      rw [e4, sumN_swap]
      refine sumN_congr fun q _ => ?_
      rw [Int.mul_comm, ← sumN_mul]
      exact sumN_congr fun l _ => by ac_rfl
    rw [e1, e2]
    unfold catN
    rw [if_pos h]
    have e5 : sumN a (fun q => (v q + sumN c (fun m => u m * P m q)) * T q j) = sumN a (fun q => v q * T q j) + sumN a (fun q => sumN c (fun m => u m * P m q) * T q j) := by
      rw [← sumN_add]
      exact sumN_congr fun q _ => Int.add_mul ..
    dsimp only
    rw [e5]
    omega
  · have e1 : sumN a (fun l => catN a v u l * RM a c T P l j) = v (j - c) := by
      have e3 : sumN a (fun l => catN a v u l * RM a c T P l j) = sumN a (fun l => v l * (if l = j - c then 1 else 0)) := sumN_congr fun l hl => by unfold catN RM; rw [if_pos hl, if_pos hl, if_neg h]
      rw [e3, sumN_delta a (j - c) (by omega)]
    have e2 : sumN c (fun l => catN a v u (a + l) * RM a c T P (a + l) j) = sumN c (fun m => u m * P m (j - c)) := sumN_congr fun l _ => by
      unfold catN RM
      rw [if_neg (by omega), if_neg (by omega), if_neg h, Nat.add_sub_cancel_left]
    rw [e1, e2]
    unfold catN
    rw [if_neg h]

theorem bl_cat (b a c : Nat) (A : Nat → Nat → Int) (i : Nat) : ∃ v u : Nat → Int, Lat b a A v ∧ ∀ j, j < a + c → bl b a A i j = catN a v u j := by
  by_cases h : i < b
  · refine ⟨A i, fun _ => 0, Lat.row b a A i h, fun j _ => ?_⟩
    unfold bl catN
    rw [if_pos h]
  · refine ⟨fun _ => 0, fun q => if i - b = q then 1 else 0, ⟨fun _ => 0, fun q _ => ?_⟩, fun j _ => ?_⟩
    · have e : sumN b (fun k => (0 : Int) * A k q) = 0 := by
        have e2 : sumN b (fun k => (0 : Int) * A k q) = sumN b (fun _ => 0) := sumN_congr fun k _ => Int.zero_mul _
        rw [e2]; exact sumN_zero b
      exact e.symm
    · unfold bl catN
      rw [if_neg h]

theorem catN_congr {a c : Nat} {v v' u u' : Nat → Int} (hv : ∀ q, q < a → v q = v' q) (hu : ∀ q, q < c → u q = u' q) {j : Nat} (hj : j < a + c) : catN a v u j = catN a v' u' j := by
  unfold catN
  split
  · exact hv j (by assumption)
  · exact hu _ (by omega)

section
variable {a b c d : Nat} {A1 A2 P T : Nat → Nat → Int}

theorem lat_sum {C : Nat → Nat → Int} {X : Nat → Nat → Int} (hX : ∀ i q, i < c → q < a → X i q = sumN b (fun k => C i k * A1 k q)) (x : Nat → Int) : Lat b a A1 (fun q => sumN c (fun i => x i * X i q)) := by
  refine ⟨fun k => sumN c (fun i => x i * C i k), fun q hq => ?_⟩
  have e1 : sumN c (fun i => x i * X i q) = sumN c (fun i => sumN b (fun k => x i * (C i k * A1 k q))) := sumN_congr fun i hi => by rw [hX i q hi hq, sumN_mul]
  dsimp only
  rw [e1, sumN_swap]
  refine sumN_congr fun k _ => ?_
  rw [Int.mul_comm, ← sumN_mul]
  exact sumN_congr fun i _ => by ac_rfl

/-- v less what T and P make of it. -/
theorem lat_left (hT : ∀ i, i < a → Lat b a A1 (fun q => (if q = i then 1 else 0) - sumN c (fun l => T i l * P l q))) (x : Nat → Int) : Lat b a A1 (fun q => x q - sumN c (fun l => sumN a (fun i => x i * T i l) * P l q)) := by
  obtain ⟨C, hC⟩ := rows_coef (r := a) (n := a) (mm := b) (H := fun i q => (if q = i then 1 else 0) - sumN c (fun l => T i l * P l q)) (M := A1) hT
  obtain ⟨κ, hκ⟩ := lat_sum (c := a) hC x
  refine ⟨κ, fun q hq => ?_⟩
  rw [← hκ q hq]
  have e1 : sumN a (fun i => x i * ((if q = i then 1 else 0) - sumN c (fun l => T i l * P l q))) = sumN a (fun i => x i * (if i = q then 1 else 0) + - (x i * sumN c (fun l => T i l * P l q))) := sumN_congr fun i _ => by
    rw [Int.mul_sub, Int.sub_eq_add_neg]
    congr 2
    by_cases h : q = i
    · rw [if_pos h, if_pos h.symm]
    · rw [if_neg h, if_neg (Ne.symm h)]
  dsimp only
  rw [e1, sumN_add, sumN_delta a q hq, sumN_neg, Int.sub_eq_add_neg]
  congr 2
  have e2 : sumN a (fun i => x i * sumN c (fun l => T i l * P l q)) = sumN a (fun i => sumN c (fun l => x i * (T i l * P l q))) := sumN_congr fun i _ => (sumN_mul c (x i) _).symm
  rw [e2, sumN_swap]
  refine sumN_congr fun l _ => ?_
  rw [Int.mul_comm, ← sumN_mul]
  exact sumN_congr fun i _ => by ac_rfl

theorem Lat.congr {m n : Nat} {M : Nat → Nat → Int} {u v : Nat → Int} (h : Lat m n M u) (e : ∀ b, b < n → v b = u b) : Lat m n M v := by
  obtain ⟨κ, hκ⟩ := h
  exact ⟨κ, fun b hb => (e b hb).trans (hκ b hb)⟩

theorem sum_add_P (x y : Nat → Int) (q : Nat) : sumN c (fun l => (x l + y l) * P l q) = sumN c (fun l => x l * P l q) + sumN c (fun l => y l * P l q) := by
  rw [← sumN_add]
  exact sumN_congr fun l _ => Int.add_mul ..

theorem sum_sub_P (x y : Nat → Int) (q : Nat) : sumN c (fun l => (x l - y l) * P l q) = sumN c (fun l => x l * P l q) - sumN c (fun l => y l * P l q) := by
  rw [Int.sub_eq_add_neg, ← sumN_neg, ← sumN_add]
  exact sumN_congr fun l _ => by rw [Int.sub_mul, Int.sub_eq_add_neg]

theorem second_dv (hT : ∀ i, i < a → Lat b a A1 (fun q => (if q = i then 1 else 0) - sumN c (fun l => T i l * P l q))) (h2 : ∀ u, Lat d c A2 u ↔ Lat b a A1 (fun q => sumN c (fun l => u l * P l q))) {k1 k2 : Nat} (hk : k1 + c = k2 + a) (g : Int) : Dv k1 b a A1 g ↔ Dv k2 d c A2 g := by
  rw [← dv_bl k1 b a A1 g c, ← dv_bl k2 d c A2 g a, ← hk]
  constructor
  · intro h
    refine h.map (R := RM a c T P) fun i _ => ?_
    obtain ⟨u', v', hu', hrow⟩ := bl_cat d c a A2 i
    refine ⟨catN a (fun q => v' q - sumN c (fun l => (u' l + sumN a (fun i => v' i * T i l)) * P l q)) (fun l => u' l + sumN a (fun i => v' i * T i l)), lat_bl ?_, fun j hj => ?_⟩
    · have h1 := (lat_left hT v').comb ((h2 u').1 hu') 1 (-1)
      refine h1.congr fun q _ => ?_
      rw [sum_add_P u' (fun l => sumN a (fun i => v' i * T i l)) q]
      omega
    · rw [hrow j hj, rm_apply a c T P _ _ j hj]
      refine catN_congr (fun q hq => ?_) (fun q hq => ?_) hj
      · have e : sumN a (fun i => (v' i - sumN c (fun l => (u' l + sumN a (fun i => v' i * T i l)) * P l i) + sumN c (fun m => (u' m + sumN a (fun i => v' i * T i m)) * P m i)) * T i q) = sumN a (fun i => v' i * T i q) := sumN_congr fun i _ => by congr 1; omega
        rw [e]
        omega
      · omega
  · intro h
    rw [hk] at h ⊢
    refine h.map (R := RM c a P T) fun i _ => ?_
    obtain ⟨v, u, hv, hrow⟩ := bl_cat b a c A1 i
    refine ⟨catN c (fun l => u l - sumN a (fun q => (v q + sumN c (fun m => u m * P m q)) * T q l)) (fun q => v q + sumN c (fun m => u m * P m q)), lat_bl ((h2 _).2 ?_), fun j hj => ?_⟩
    · have h1 := (lat_left hT (fun q => v q + sumN c (fun m => u m * P m q))).comb hv 1 (-1)
      refine h1.congr fun q _ => ?_
      rw [sum_sub_P u (fun l => sumN a (fun q => (v q + sumN c (fun m => u m * P m q)) * T q l)) q]
      omega
    · rw [hrow j hj, rm_apply c a P T _ _ j hj]
      refine catN_congr (fun q hq => ?_) (fun q hq => ?_) hj
      · have e : sumN c (fun m => (u m - sumN a (fun q => (v q + sumN c (fun m => u m * P m q)) * T q m) + sumN a (fun q => (v q + sumN c (fun m => u m * P m q)) * T q m)) * P m q) = sumN c (fun m => u m * P m q) := sumN_congr fun m _ => by congr 1; omega
        rw [e]
        omega
      · omega

end

theorem dv_more {k r n : Nat} (A : Nat → Nat → Int) (h : r < k) : Dv k r n A 0 := fun f c hf _ => by
  obtain ⟨i, l, h1, h2, h3⟩ := pigeon r f fun i hi => hf i (by omega)
  rw [det_alt k _ i l h1 (by omega) fun b => by rw [h3]]
  exact Int.dvd_refl 0

theorem rank_one {a b c d : Nat} {y z : Nat → Int} (pz : ∀ i, i < d → 0 < z i) (h : ∀ k1 k2 g, k1 + c = k2 + a → Dv k1 b b (dgM y) g → Dv k2 d d (dgM z) g) : a + d ≤ b + c := by
  rcases Nat.lt_or_ge (b + c) (a + d) with hl | hl
  · exfalso
    have key : ∀ k2, k2 ≤ d → Dv k2 d d (dgM z) 0 → False := fun k2 hk hd => by
      have h1 := hd (fun i => i) (fun i => i) (fun i hi => by show i < d; omega) fun i hi => by show i < d; omega
      have h2 : det k2 (fun a b => dgM z a b) = prodN k2 z := det_dg k2 z
      rw [h2] at h1
      have h3 := Int.zero_dvd.1 h1
      have h4 := prodN_pos k2 z fun i hi => pz i (by omega)
      omega
    by_cases hs : a ≤ b + 1 + c
    · exact key (b + 1 + c - a) (by omega) (h (b + 1) (b + 1 + c - a) 0 (by omega) (dv_more _ (by omega)))
    · exact key 0 (Nat.zero_le _) (h (a - c) 0 0 (by omega) (dv_more _ (by omega)))
  · exact hl

theorem over_ones (m : Nat) (ys : List Int) : overOne (List.replicate m 1 ++ ys) = overOne ys := by
  unfold overOne
  rw [List.filter_append]
  have e : (List.replicate m (1 : Int)).filter (fun y => decide (1 < y)) = [] := by
    rw [List.filter_eq_nil_iff]
    intro x hx
    rw [(List.mem_replicate.1 hx).2]
    decide
  rw [e, List.nil_append]

theorem over_same {ys zs : List Int} (py : ∀ i, i < ys.length → 0 < ys.getD i 0) (pz : ∀ i, i < zs.length → 0 < zs.getD i 0) (hl : zs.length ≤ ys.length) (h : ∀ i, i ≤ zs.length → prodN (ys.length - zs.length + i) (fun i => ys.getD i 0) = prodN i (fun i => zs.getD i 0)) : overOne ys = overOne zs := by
  have e : ys = List.replicate (ys.length - zs.length) 1 ++ zs := by
    refine list_ext (by rw [List.length_append, List.length_replicate]; omega) fun i hi => ?_
    by_cases hc : i < ys.length - zs.length
    · have h1 := h 0 (Nat.zero_le _)
      have h2 := prodN_ge (ys.length - zs.length) (fun i => ys.getD i 0) (fun j hj => py j (by omega)) i hc
      have h3 := py i hi
      rw [Nat.add_zero] at h1
      have h4 : prodN 0 (fun i => zs.getD i 0) = 1 := rfl
      have e1 : (List.replicate (ys.length - zs.length) (1 : Int) ++ zs).getD i 0 = 1 := by
        rw [List.getD_eq_getElem?_getD, List.getElem?_append_left (by rw [List.length_replicate]; exact hc), List.getElem?_replicate, if_pos hc]; rfl
      rw [e1]
      omega
    · obtain ⟨q, hq⟩ : ∃ q, i = ys.length - zs.length + q := ⟨i - (ys.length - zs.length), by omega⟩
      have h1 := h q (by omega); have h2 := h (q + 1) (by omega)
      rw [← Nat.add_assoc, prodN, prodN, h1, ← hq] at h2
      have h3 := prodN_pos q (fun i => zs.getD i 0) fun j hj => pz j (by omega)
      have h4 := Int.eq_of_mul_eq_mul_left (by omega) h2
      have e1 : (List.replicate (ys.length - zs.length) (1 : Int) ++ zs).getD i 0 = zs.getD q 0 := by
        rw [List.getD_eq_getElem?_getD, List.getElem?_append_right (by rw [List.length_replicate]; omega), List.length_replicate, ← List.getD_eq_getElem?_getD]
        congr 1
        omega
      rw [e1]
      exact h4
  rw [e, over_ones]

/-- The same classes: the same invariants above one, and as many times all numbers. -/
theorem second_one {a c : Nat} {ys zs : List Int} (py : ∀ i, i < ys.length → 0 < ys.getD i 0) (pz : ∀ i, i < zs.length → 0 < zs.getD i 0) (cy : ∀ i j, i < j → j < ys.length → ∃ p, ys.getD j 0 = p * ys.getD i 0) (cz : ∀ i j, i < j → j < zs.length → ∃ p, zs.getD j 0 = p * zs.getD i 0)
    (h : ∀ k1 k2 g, k1 + c = k2 + a → (Dv k1 ys.length ys.length (dgM fun i => ys.getD i 0) g ↔ Dv k2 zs.length zs.length (dgM fun i => zs.getD i 0) g)) : a + zs.length = ys.length + c ∧ overOne ys = overOne zs := by
  have h1 := rank_one pz fun k1 k2 g hk hd => (h k1 k2 g hk).1 hd
  have h2 := rank_one py fun k1 k2 g hk hd => (h k2 k1 g hk.symm).2 hd
  have hr : a + zs.length = ys.length + c := by omega
  refine ⟨hr, ?_⟩
  have same : ∀ k1 k2, k1 + c = k2 + a → k1 ≤ ys.length → k2 ≤ zs.length → prodN k1 (fun i => ys.getD i 0) = prodN k2 (fun i => zs.getD i 0) := fun k1 k2 hk hk1 hk2 => by
    have q1 := (h k1 k2 _ hk).1 (dv_dg cy k1 hk1) (fun i => i) (fun i => i) (fun i hi => by show i < zs.length; omega) fun i hi => by show i < zs.length; omega
    have q2 := (h k1 k2 _ hk).2 (dv_dg cz k2 hk2) (fun i => i) (fun i => i) (fun i hi => by show i < ys.length; omega) fun i hi => by show i < ys.length; omega
    have e1 : det k2 (fun a b => dgM (fun i => zs.getD i 0) a b) = prodN k2 (fun i => zs.getD i 0) := det_dg k2 _
    have e2 : det k1 (fun a b => dgM (fun i => ys.getD i 0) a b) = prodN k1 (fun i => ys.getD i 0) := det_dg k1 _
    rw [e1] at q1
    rw [e2] at q2
    refine Int.dvd_antisymm ?_ ?_ q1 q2
    · have := prodN_pos k1 (fun i => ys.getD i 0) fun j hj => py j (by omega); omega
    · have := prodN_pos k2 (fun i => zs.getD i 0) fun j hj => pz j (by omega); omega
  rcases Nat.le_total zs.length ys.length with hl | hl
  · exact over_same py pz hl fun i hi => same _ _ (by omega) (by omega) hi
  · exact (over_same pz py hl fun i hi => (same _ _ (by omega) hi (by omega)).symm).symm

end Go.Proofs.YtdedolkgcdlmeaaGreatDoor
