/- Determinants of some rows and some places: what goes into all of them. No Go in it. -/
import Derived.Test.YtdedolkgcdlmeaaGreatDoorSmD
import Derived.Test.YtdedolkgcdlmeaaGreatDoorSmV
import Derived.Test.YtdedolkgcdlmeaaGreatDoorDetT
namespace Go.Proofs.YtdedolkgcdlmeaaGreatDoor
open Go.RowKit Limbs

theorem prod_four {s t u v x y d : Int} (h : s * t = u * v) : s * x * (t * y * d) = u * y * (v * x * d) := by
  have e1 : s * x * (t * y * d) = (s * t) * (x * y * d) := by ac_rfl
  have e2 : u * y * (v * x * d) = (u * v) * (x * y * d) := by ac_rfl
  rw [e1, e2, h]

/-- By the last row and the last place. -/
theorem det_both (m : Nat) (M : Nat → Nat → Int) (h0 : ∀ X, det m (trM X) = det m X) (h1 : ∀ X, det (m + 1) (trM X) = det (m + 1) X) :
    det (m + 2) M = sumN (m + 1) (fun j => sumN (m + 1) (fun i => sgnN (m + 1 + j) * M (m + 1) j * (sgnN (m + i) * M i (m + 1) * det m (fun a b => M (sk i a) (sk j b))))) + M (m + 1) (m + 1) * det (m + 1) M := by
  rw [det, sumN]
  have e1 : sgnN (m + 1 + (m + 1)) * M (m + 1) (m + 1) * det (m + 1) (fun a b => M a (sk (m + 1) b)) = M (m + 1) (m + 1) * det (m + 1) M := by
    rw [show sgnN (m + 1 + (m + 1)) = 1 by unfold sgnN; rw [if_pos (by omega)], Int.one_mul]
    congr 1
    exact det_congr fun a b _ hb => by rw [sk_lt hb]
  rw [e1]
  congr 1
  refine sumN_congr fun j hj => ?_
  rw [sumN_mul]
  congr 1
  rw [← h1, det]
  refine sumN_congr fun i hi => ?_
  have e2 : trM (fun a b => M a (sk j b)) m i = M i (m + 1) := by
    show M i (sk j m) = _
    rw [sk_ge (by omega)]
  rw [e2]
  congr 1
  exact h0 (fun a b => M (sk i a) (sk j b))

theorem det_tr : ∀ (n : Nat) (M : Nat → Nat → Int), det n (trM M) = det n M := by
  have key : ∀ n, (∀ M, det n (trM M) = det n M) ∧ ∀ M, det (n + 1) (trM M) = det (n + 1) M := fun n => by
    induction n with
    | zero => exact ⟨fun _ => rfl, fun _ => rfl⟩
    | succ m ih =>
      refine ⟨ih.2, fun M => ?_⟩
      rw [det_both m (trM M) ih.1 ih.2, det_both m M ih.1 ih.2, sumN_swap, ih.2 M]
      congr 1
      refine sumN_congr fun j hj => sumN_congr fun i hi => ?_
      have e : det m (fun a b => trM M (sk j a) (sk i b)) = det m (fun a b => M (sk i a) (sk j b)) := ih.1 (fun a b => M (sk i a) (sk j b))
      rw [e]
      exact prod_four (by rw [sgnN_mul, sgnN_mul]; congr 1; omega)
  exact fun n => (key n).1

/-- It goes into all determinants of k rows and k places. -/
def Dv (k m n : Nat) (A : Nat → Nat → Int) (g : Int) : Prop := ∀ f c : Nat → Nat, (∀ i, i < k → f i < m) → (∀ i, i < k → c i < n) → g ∣ det k (fun a b => A (f a) (c b))

theorem dvd_sumN {g : Int} (n : Nat) (f : Nat → Int) (h : ∀ i, i < n → g ∣ f i) : g ∣ sumN n f := by
  induction n with
  | zero => exact Int.dvd_zero g
  | succ n ih => exact Int.dvd_add (ih fun i hi => h i (by omega)) (h n (by omega))

section
variable {k m m' n n' : Nat} {A B T V : Nat → Nat → Int} {g : Int}

theorem Dv.congr (h : Dv k m n A g) (e : ∀ i j, i < m → j < n → B i j = A i j) : Dv k m n B g := fun f c hf hc => by
  rw [det_congr fun a b ha hb => e (f a) (c b) (hf a ha) (hc b hb)]
  exact h f c hf hc

theorem Dv.tr (h : Dv k m n A g) : Dv k n m (trM A) g := fun f c hf hc => by
  have e : det k (fun a b => trM A (f a) (c b)) = det k (fun a b => A (c a) (f b)) := det_tr k (fun a b => A (c a) (f b))
  rw [e]
  exact h c f hc hf

theorem Dv.left (h : Dv k m n A g) (e : ∀ a b, a < m' → b < n → B a b = sumN m (fun l => T a l * A l b)) : Dv k m' n B g := fun f c hf hc => by
  have key : ∀ q, q ≤ k → ∀ φ : Nat → Nat, (∀ i, q ≤ i → i < k → φ i < m) → g ∣ det k (fun a b => if a < q then sumN m (fun l => T (f a) l * A l (c b)) else A (φ a) (c b)) := fun q => by
    induction q with
    | zero =>
      intro _ φ hφ
      rw [det_congr (M' := fun a b => A (φ a) (c b)) fun a b _ _ => if_neg (Nat.not_lt_zero a)]
      exact h φ c (fun i hi => hφ i (Nat.zero_le i) hi) hc
    | succ q ih =>
      intro hq φ hφ
      have e1 : det k (fun a b => if a < q + 1 then sumN m (fun l => T (f a) l * A l (c b)) else A (φ a) (c b)) = det k (setRow (fun a b => if a < q then sumN m (fun l => T (f a) l * A l (c b)) else A (φ a) (c b)) q (fun b => sumN m (fun l => T (f q) l * A l (c b)))) := det_congr fun a b _ _ => by
        by_cases ha : a = q
        · subst ha
          rw [setRow_at, if_pos (by omega)]
        · rw [setRow_ne _ _ _ ha]
          by_cases hl : a < q
          · rw [if_pos (by omega), if_pos hl]
          · rw [if_neg (by omega), if_neg hl]
      rw [e1, det_row_sum k _ q (by omega) m (fun l => T (f q) l) (fun l b => A l (c b))]
      refine dvd_sumN m _ fun l hl => ?_
      have e2 : det k (setRow (fun a b => if a < q then sumN m (fun l => T (f a) l * A l (c b)) else A (φ a) (c b)) q (fun b => A l (c b))) = det k (fun a b => if a < q then sumN m (fun l => T (f a) l * A l (c b)) else A (if a = q then l else φ a) (c b)) := det_congr fun a b _ _ => by
        by_cases ha : a = q
        · subst ha
          rw [setRow_at, if_neg (by omega), if_pos rfl]
        · rw [setRow_ne _ _ _ ha, if_neg ha]
      obtain ⟨x, hx⟩ := ih (by omega) (fun a => if a = q then l else φ a) fun i h1 h2 => by
        show (if i = q then l else φ i) < m
        by_cases hi : i = q
        · rw [if_pos hi]; exact hl
        · rw [if_neg hi]; exact hφ i (by omega) h2
      exact ⟨T (f q) l * x, by rw [e2, hx]; ac_rfl⟩
  have h1 := key k (Nat.le_refl k) (fun _ => 0) fun i h1 h2 => absurd h1 (by omega)
  rw [det_congr (M' := fun a b => B (f a) (c b)) fun a b ha hb => by rw [if_pos ha, e (f a) (c b) (hf a ha) (hc b hb)]] at h1
  exact h1

theorem Dv.right (h : Dv k m n A g) (e : ∀ a b, a < m → b < n' → B a b = sumN n (fun l => A a l * V l b)) : Dv k m n' B g :=
  (h.tr.left (B := trM B) (T := trM V) (m' := n') fun a b ha hb => by
    show B b a = _
    rw [e b a hb ha]
    exact sumN_congr fun l _ => Int.mul_comm _ _).tr

theorem Dv.equ {r : Nat} (h : Dv k r r A g) (q : Equ r A B) : Dv k r r B g := by
  obtain ⟨U, U', V, V', -, -, e⟩ := q
  exact (h.left (B := mulM r U A) (T := U) fun a b _ _ => rfl).right (V := V) fun a b ha hb => e a b ha hb

theorem det_dg (k : Nat) (z : Nat → Int) : det k (dgM z) = prodN k z := by
  rw [det_tri k _ fun a b _ hb => by unfold dgM; rw [if_neg (by omega)]]
  exact prodN_congr fun i _ => by unfold dgM; rw [if_pos rfl]

theorem dv_dg {r : Nat} {z : Nat → Int} (hc : ∀ i j, i < j → j < r → ∃ p, z j = p * z i) : ∀ k, k ≤ r → Dv k r r (dgM z) (prodN k z) := fun k => by
  induction k with
  | zero => intro _ f c _ _; exact ⟨1, rfl⟩
  | succ k ih =>
    intro hk f c hf hcc
    by_cases hex : ∃ a, a ≤ k ∧ k ≤ f a
    · obtain ⟨a, ha, hfa⟩ := hex
      have main : ∀ f' : Nat → Nat, (∀ i, i < k + 1 → f' i < r) → k ≤ f' k → prodN (k + 1) z ∣ det (k + 1) (fun a b => dgM z (f' a) (c b)) := fun f' hf' hk' => by
        rw [det]
        refine dvd_sumN (k + 1) _ fun j hj => ?_
        obtain ⟨x, hx⟩ := ih (by omega) f' (fun b => c (sk j b)) (fun i hi => hf' i (by omega)) fun i hi => hcc _ (by unfold sk; split <;> omega)
        obtain ⟨y, hy⟩ : ∃ y, dgM z (f' k) (c j) = z k * y := by
          unfold dgM
          split
          · by_cases e : k = f' k
            · exact ⟨1, by rw [← e, Int.mul_one]⟩
            · obtain ⟨p, hp⟩ := hc k (f' k) (by omega) (hf' k (by omega))
              exact ⟨p, by rw [hp, Int.mul_comm]⟩
          · exact ⟨0, by rw [Int.mul_zero]⟩
        rw [hx, hy]
        exact ⟨sgnN (k + j) * y * x, by show _ = prodN k z * z k * _; ac_rfl⟩
      by_cases e : a = k
      · subst e
        exact main f hf hfa
      · have h1 := main (fun i => f (sw a k i)) (fun i hi => hf _ (by unfold sw; split <;> (try split) <;> omega)) (by show k ≤ f (sw a k k); unfold sw; rw [if_neg (Ne.symm e), if_pos rfl]; exact hfa)
        have h2 : det (k + 1) (fun i b => dgM z (f (sw a k i)) (c b)) = - det (k + 1) (fun i b => dgM z (f i) (c b)) := by
          rw [← det_swap (k + 1) _ a k (by omega) (by omega)]
          exact det_congr fun i b _ _ => by rw [swapRows_sw]
        rw [h2] at h1
        exact Int.dvd_neg.1 h1
    · obtain ⟨i, l, h1, h2, h3⟩ := pigeon k f fun i hi => by
        rcases Nat.lt_or_ge (f i) k with h | h
        · exact h
        · exact absurd ⟨i, hi, h⟩ hex
      rw [det_alt (k + 1) _ i l h1 (by omega) fun b => by rw [h3]]
      exact Int.dvd_zero _

end

theorem dv_alike {k n : Nat} {g : Int} {F G : List (List Int)} (hF : ∀ u ∈ F, u.length = n) (a : Alikes n (InL F) (InL G)) (h : Dv k G.length n (ent G) g) : Dv k F.length n (ent F) g := by
  obtain ⟨C, hC⟩ := rows_coef (r := F.length) (n := n) (mm := G.length) (H := ent F) (M := ent G) fun i hi => by
    have hm : F.getD i [] ∈ F := getD_mem hi
    exact lat_inL ((a _).1 (.base hm (hF _ hm)))
  exact h.left (T := C) fun x y hx hy => hC x y hx hy

theorem ent_colsL {ms : List (List Int)} {n j b : Nat} (hj : j < n) (hb : b < ms.length) : ent (colsL ms n) j b = ent ms b j := by
  unfold ent
  rw [colsL_get ms n j hj, map_getD0 ms (fun r => r.getD j 0) b hb]

theorem dv_cols {k n : Nat} {g : Int} {ms : List (List Int)} : Dv k ms.length n (ent ms) g ↔ Dv k n ms.length (ent (colsL ms n)) g :=
  ⟨fun h => h.tr.congr fun _ _ hi hj => ent_colsL hi hj, fun h => h.tr.congr fun _ _ hi hj => (ent_colsL hj hi).symm⟩

/-- What goes into the determinants of rows, and of their invariants. -/
theorem smith_dv {n : Nat} {ms hs fs : List (List Int)} {p : Nat → Nat} {ys : List Int} {D : Int} (F : FormL n hs p) (a : Alikes n (InL hs) (InL ms)) (hm : ∀ u ∈ ms, u.length = n) (T : TurnF n hs fs) (C : ChI hs.length ys D (ent fs) hs.length (hs.length + 1)) (k : Nat) (g : Int) :
    Dv k ms.length n (ent ms) g ↔ Dv k ys.length ys.length (dgM fun i => ys.getD i 0) g := by
  rw [C.len]
  constructor
  · intro h
    have h1 := dv_cols.1 (dv_alike F.len a h)
    have h2 : Dv k (colsL hs n).length hs.length (ent (colsL hs n)) g := by rw [colsL_length]; exact h1
    have h3 := dv_alike T.lens T.alike h2
    rw [T.len] at h3
    exact h3.equ C.rel
  · intro h
    have h1 := h.equ C.rel.symm
    have h2 : Dv k fs.length hs.length (ent fs) g := by rw [T.len]; exact h1
    have h3 := dv_alike (colsL_len hs n) T.alike.symm h2
    rw [colsL_length] at h3
    exact dv_alike hm a.symm (dv_cols.2 h3)

end Go.Proofs.YtdedolkgcdlmeaaGreatDoor
