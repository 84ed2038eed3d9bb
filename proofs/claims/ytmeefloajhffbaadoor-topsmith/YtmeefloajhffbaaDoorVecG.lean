/- Rows whose pivots are alone; what is left of rows that are turned about. No Go in it. -/
import Derived.Test.YtmeefloajhffbaaDoorSmU
import Derived.Test.YtmeefloajhffbaaDoorSmA
import Derived.Test.YtmeefloajhffbaaDoorSmD
import Derived.Test.YtmeefloajhffbaaDoorDetU
import Derived.Test.YtmeefloajhffbaaDoorVecW
import Derived.Test.YtmeefloajhffbaaDoorGcdA

namespace Go.Proofs.YtmeefloajhffbaaDoor
open Go.RowKit Limbs

/-- As many rows as places, that make what the places of the rows make. -/
structure TurnF (n : Nat) (hs fs : List (List Int)) : Prop where
  len : fs.length = hs.length
  lens : ∀ u ∈ fs, u.length = hs.length
  free : FreeM hs.length (ent fs)
  alike : Alikes hs.length (InL fs) (InL (colsL hs n))

/-- Each place by itself, as rows. -/
def dgL (r : Nat) (f : Nat → Int) : List (List Int) := (List.range r).map fun i => (List.range r).map fun j => dgM f i j

theorem dgL_length (r : Nat) (f : Nat → Int) : (dgL r f).length = r := by simp [dgL]

theorem dgL_len (r : Nat) (f : Nat → Int) : ∀ u ∈ dgL r f, u.length = r := fun u hu => by
  obtain ⟨i, -, rfl⟩ := List.mem_map.1 hu
  simp

theorem dgL_get (r : Nat) (f : Nat → Int) (i : Nat) (hi : i < r) : (dgL r f).getD i [] = (List.range r).map fun j => dgM f i j := by
  rw [getD_row (by rw [dgL_length]; exact hi)]
  simp [dgL]

theorem dgL_ent (r : Nat) (f : Nat → Int) : EqM r (ent (dgL r f)) (dgM f) := fun i j hi hj => by
  show ((dgL r f).getD i []).getD j 0 = _
  rw [dgL_get r f i hi, range_getD _ _ j hj]

theorem alone_turn {n : Nat} {hs : List (List Int)} {p : Nat → Nat} (F : FormL n hs p) (h : aloneTo hs p n hs.length) : ∃ gs, TurnF n hs gs ∧ Equ hs.length (ent gs) (dgM fun i => (pivL hs p).getD i 0) := by
  have h0 : ∀ i b, i < hs.length → b < n → b ≠ p i → ent hs i b = 0 := fun i b hi hb hne => by
    rcases Nat.lt_or_gt_of_ne hne with hl | hl
    · exact F.form.zero i b hi hl
    · exact h i hi b hl hb
  have hcol : ∀ i, i < hs.length → (colsL hs n).getD (p i) [] = (dgL hs.length (fun k => ent hs k (p k))).getD i [] := fun i hi => by
    have hp := F.form.lt i hi
    rw [colsL_get hs n _ hp, dgL_get _ _ i hi]
    refine list_ext (by simp) fun k hk => ?_
    rw [List.length_map] at hk
    rw [map_getD0 _ _ _ hk, range_getD _ _ k hk]
    show ent hs k (p i) = dgM (fun k => ent hs k (p k)) i k
    unfold dgM
    by_cases e : i = k
    · rw [if_pos e, e]
    · rw [if_neg e]
      refine h0 k (p i) hk hp fun e2 => e ?_
      rcases Nat.lt_trichotomy i k with hlt | hlt | hlt
      · have := F.form.inc i k hlt hk; omega
      · exact hlt
      · have := F.form.inc k i hlt hi; omega
  refine ⟨dgL hs.length (fun k => ent hs k (p k)), ⟨dgL_length _ _, dgL_len _ _, ?_, ?_⟩, .of ((dgL_ent _ _).trans fun i j hi hj => ?_)⟩
  · refine free_up (fun i j hi hj hji => ?_) fun i hi => ?_
    · rw [dgL_ent _ _ i j hi hj, dgM, if_neg (by omega)]
    · rw [dgL_ent _ _ i i hi hi, dgM, if_pos rfl]
      have : 0 < ent hs i (p i) := F.form.pos i hi
      omega
  · refine Alikes.of (fun v hv hl => ?_) fun v hv hl => ?_
    · obtain ⟨i, hi, e⟩ := List.getElem_of_mem hv
      have hi' : i < hs.length := by rw [dgL_length] at hi; exact hi
      have hm : (colsL hs n).getD (p i) [] ∈ colsL hs n := getD_mem (by rw [colsL_length]; exact F.form.lt i hi')
      rw [hcol i hi', getD_row hi, e] at hm
      exact .base hm hl
    · obtain ⟨j, hj, e⟩ := List.getElem_of_mem hv
      have hj' : j < n := by rw [colsL_length] at hj; exact hj
      by_cases hp : ∃ i, i < hs.length ∧ j = p i
      · obtain ⟨i, hi, rfl⟩ := hp
        have hm : (dgL hs.length (fun k => ent hs k (p k))).getD i [] ∈ dgL hs.length (fun k => ent hs k (p k)) := getD_mem (by rw [dgL_length]; exact hi)
        rw [← hcol i hi, getD_row hj, e] at hm
        exact .base hm hl
      · have e2 : v = List.replicate hs.length 0 := by
          rw [← e, ← getD_row hj, colsL_get hs n j hj']
          refine list_ext (by simp) fun k hk => ?_
          rw [List.length_map] at hk
          rw [map_getD0 _ _ _ hk]
          have := h0 k j hk hj' fun e3 => hp ⟨k, hk, e3⟩
          unfold ent at this
          rw [this]
          simp [List.getD_eq_getElem?_getD, hk]
        rw [e2]
        exact .zero
  · unfold dgM
    split
    · exact (pivL_get hs p i hi).symm
    · rfl

theorem equ_done {r : Nat} {H : List (List Int)} {A : Nat → Nat → Int} (S : Sq r H) (al : ∀ k, k < r → ∀ b, k < b → b < r → ent H k b = 0) (h : Equ r A (ent H) ∨ Equ r (trM A) (ent H)) : Equ r A (dgM fun i => (pivL H fun k => k).getD i 0) := by
  have e : EqM r (ent H) (dgM fun i => (pivL H fun k => k).getD i 0) := fun i j hi hj => by
    unfold dgM
    by_cases hij : i = j
    · rw [if_pos hij]
      refine Eq.trans ?_ (pivL_get H _ i (by rw [S.len]; exact hi)).symm
      rw [hij]
    · rw [if_neg hij]
      rcases Nat.lt_or_gt_of_ne hij with hl | hl
      · exact al i hi j hl hj
      · exact S.low hi hl
  rcases h with h | h
  · exact h.trans (.of e)
  · have := (h.trans (.of e)).tr
    rw [trM_dg] at this
    exact this

theorem equ_turn {n : Nat} {hs H fs : List (List Int)} (S : Sq hs.length H) (S' : Sq hs.length fs) (a : Alikes hs.length (InL fs) (InL (colsL H hs.length))) (h : ∃ gs, TurnF n hs gs ∧ (Equ hs.length (ent gs) (ent H) ∨ Equ hs.length (trM (ent gs)) (ent H))) :
    ∃ gs, TurnF n hs gs ∧ (Equ hs.length (ent gs) (ent fs) ∨ Equ hs.length (trM (ent gs)) (ent fs)) := by
  obtain ⟨gs, hg, h⟩ := h
  refine ⟨gs, hg, ?_⟩
  rcases h with h | h
  · exact .inr (h.tr.trans (S.cols_equ S' a))
  · exact .inl (h.tr.trans (S.cols_equ S' a))

end Go.Proofs.YtmeefloajhffbaaDoor

/- Determinants of some rows and some places: what goes into all of them. No Go in it. -/
namespace Go.Proofs.YtmeefloajhffbaaDoor
open Go.RowKit Limbs

theorem prod_four {s t u v x y d : Int} (h : s * t = u * v) : s * x * (t * y * d) = u * y * (v * x * d) := by
  have e1 : s * x * (t * y * d) = (s * t) * (x * y * d) := by ac_rfl
  have e2 : u * y * (v * x * d) = (u * v) * (x * y * d) := by ac_rfl
  rw [e1, e2, h]

/-- By the last row and the last place. -/
theorem det_both (m : Nat) (M : Nat → Nat → Int) (h0 : ∀ X, det m (trM X) = det m X) (h1 : ∀ X, det (m + 1) (trM X) = det (m + 1) X) :
    det (m + 2) M = sumN (m + 1) (fun j => sumN (m + 1) (fun i => sgnN (m + 1 + j) * M (m + 1) j * (sgnN (m + i) * M i (m + 1) * det m (fun a b => M (sk i a) (sk j b))))) + M (m + 1) (m + 1) * det (m + 1) M := by
  rw [det, sumN]
  have e1 : sgnN (m + 1 + (m + 1)) * M (m + 1) (m + 1) * det (m + 1) (fun a b => M a (sk (m + 1) b)) = M (m + 1) (m + 1) * det (m + 1) M := by
    rw [show sgnN (m + 1 + (m + 1)) = 1 by unfold sgnN; rw [if_pos (by omega)], Int.one_mul]
    congr 1
    exact det_congr fun a b _ hb => by rw [sk_lt hb]
  rw [e1]
  congr 1
  refine sumN_congr fun j hj => ?_
  rw [sumN_mul]
  congr 1
  rw [← h1, det]
  refine sumN_congr fun i hi => ?_
  have e2 : trM (fun a b => M a (sk j b)) m i = M i (m + 1) := by
    show M i (sk j m) = _
    rw [sk_ge (by omega)]
  rw [e2]
  congr 1
  exact h0 (fun a b => M (sk i a) (sk j b))

theorem det_tr : ∀ (n : Nat) (M : Nat → Nat → Int), det n (trM M) = det n M := by
  have key : ∀ n, (∀ M, det n (trM M) = det n M) ∧ ∀ M, det (n + 1) (trM M) = det (n + 1) M := fun n => by
    induction n with
    | zero => exact ⟨fun _ => rfl, fun _ => rfl⟩
    | succ m ih =>
      refine ⟨ih.2, fun M => ?_⟩
      rw [det_both m (trM M) ih.1 ih.2, det_both m M ih.1 ih.2, sumN_swap, ih.2 M]
      congr 1
      refine sumN_congr fun j hj => sumN_congr fun i hi => ?_
      have e : det m (fun a b => trM M (sk j a) (sk i b)) = det m (fun a b => M (sk i a) (sk j b)) := ih.1 (fun a b => M (sk i a) (sk j b))
      rw [e]
      exact prod_four (by rw [sgnN_mul, sgnN_mul]; congr 1; omega)
  exact fun n => (key n).1

/-- It goes into all determinants of k rows and k places. -/
def Dv (k m n : Nat) (A : Nat → Nat → Int) (g : Int) : Prop := ∀ f c : Nat → Nat, (∀ i, i < k → f i < m) → (∀ i, i < k → c i < n) → g ∣ det k (fun a b => A (f a) (c b))

theorem dvd_sumN {g : Int} (n : Nat) (f : Nat → Int) (h : ∀ i, i < n → g ∣ f i) : g ∣ sumN n f := by
  induction n with
  | zero => exact Int.dvd_zero g
  | succ n ih => exact Int.dvd_add (ih fun i hi => h i (by omega)) (h n (by omega))

section
variable {k m m' n n' : Nat} {A B T V : Nat → Nat → Int} {g : Int}

theorem Dv.congr (h : Dv k m n A g) (e : ∀ i j, i < m → j < n → B i j = A i j) : Dv k m n B g := fun f c hf hc => by
  rw [det_congr fun a b ha hb => e (f a) (c b) (hf a ha) (hc b hb)]
  exact h f c hf hc

theorem Dv.tr (h : Dv k m n A g) : Dv k n m (trM A) g := fun f c hf hc => by
  have e : det k (fun a b => trM A (f a) (c b)) = det k (fun a b => A (c a) (f b)) := det_tr k (fun a b => A (c a) (f b))
  rw [e]
  exact h c f hc hf

theorem Dv.left (h : Dv k m n A g) (e : ∀ a b, a < m' → b < n → B a b = sumN m (fun l => T a l * A l b)) : Dv k m' n B g := fun f c hf hc => by
  have key : ∀ q, q ≤ k → ∀ φ : Nat → Nat, (∀ i, q ≤ i → i < k → φ i < m) → g ∣ det k (fun a b => if a < q then sumN m (fun l => T (f a) l * A l (c b)) else A (φ a) (c b)) := fun q => by
    induction q with
    | zero =>
      intro _ φ hφ
      rw [det_congr (M' := fun a b => A (φ a) (c b)) fun a b _ _ => if_neg (Nat.not_lt_zero a)]
      exact h φ c (fun i hi => hφ i (Nat.zero_le i) hi) hc
    | succ q ih =>
      intro hq φ hφ
      have e1 : det k (fun a b => if a < q + 1 then sumN m (fun l => T (f a) l * A l (c b)) else A (φ a) (c b)) = det k (setRow (fun a b => if a < q then sumN m (fun l => T (f a) l * A l (c b)) else A (φ a) (c b)) q (fun b => sumN m (fun l => T (f q) l * A l (c b)))) := det_congr fun a b _ _ => by
        by_cases ha : a = q
        · subst ha
          rw [setRow_at, if_pos (by omega)]
        · rw [setRow_ne _ _ _ ha]
          by_cases hl : a < q
          · rw [if_pos (by omega), if_pos hl]
          · rw [if_neg (by omega), if_neg hl]
      rw [e1, det_row_sum k _ q (by omega) m (fun l => T (f q) l) (fun l b => A l (c b))]
      refine dvd_sumN m _ fun l hl => ?_
      have e2 : det k (setRow (fun a b => if a < q then sumN m (fun l => T (f a) l * A l (c b)) else A (φ a) (c b)) q (fun b => A l (c b))) = det k (fun a b => if a < q then sumN m (fun l => T (f a) l * A l (c b)) else A (if a = q then l else φ a) (c b)) := det_congr fun a b _ _ => by
        by_cases ha : a = q
        · subst ha
          rw [setRow_at, if_neg (by omega), if_pos rfl]
        · rw [setRow_ne _ _ _ ha, if_neg ha]
      obtain ⟨x, hx⟩ := ih (by omega) (fun a => if a = q then l else φ a) fun i h1 h2 => by
        show (if i = q then l else φ i) < m
        by_cases hi : i = q
        · rw [if_pos hi]; exact hl
        · rw [if_neg hi]; exact hφ i (by omega) h2
      exact ⟨T (f q) l * x, by rw [e2, hx]; ac_rfl⟩
  have h1 := key k (Nat.le_refl k) (fun _ => 0) fun i h1 h2 => absurd h1 (by omega)
  rw [det_congr (M' := fun a b => B (f a) (c b)) fun a b ha hb => by rw [if_pos ha, e (f a) (c b) (hf a ha) (hc b hb)]] at h1
  exact h1

theorem Dv.right (h : Dv k m n A g) (e : ∀ a b, a < m → b < n' → B a b = sumN n (fun l => A a l * V l b)) : Dv k m n' B g :=
  (h.tr.left (B := trM B) (T := trM V) (m' := n') fun a b ha hb => by
    show B b a = _
    rw [e b a hb ha]
    exact sumN_congr fun l _ => Int.mul_comm _ _).tr

theorem Dv.equ {r : Nat} (h : Dv k r r A g) (q : Equ r A B) : Dv k r r B g := by
  obtain ⟨U, U', V, V', -, -, e⟩ := q
  exact (h.left (B := mulM r U A) (T := U) fun a b _ _ => rfl).right (V := V) fun a b ha hb => e a b ha hb

/-- No determinant of more rows than there are. -/
theorem dv_over (r n : Nat) (A : Nat → Nat → Int) : Dv (r + 1) r n A 0 := fun f c hf _ => by
  obtain ⟨i, l, h1, h2, h3⟩ := pigeon r f fun i hi => hf i (by omega)
  rw [det_alt (r + 1) _ i l h1 (by omega) fun b => by rw [h3]]
  exact Int.dvd_refl 0

theorem det_dg (k : Nat) (z : Nat → Int) : det k (dgM z) = prodN k z := by
  rw [det_tri k _ fun a b _ hb => by unfold dgM; rw [if_neg (by omega)]]
  exact prodN_congr fun i _ => by unfold dgM; rw [if_pos rfl]

theorem dv_dg {r : Nat} {z : Nat → Int} (hc : ∀ i j, i < j → j < r → ∃ p, z j = p * z i) : ∀ k, k ≤ r → Dv k r r (dgM z) (prodN k z) := fun k => by
  induction k with
  | zero => intro _ f c _ _; exact ⟨1, rfl⟩
  | succ k ih =>
    intro hk f c hf hcc
    by_cases hex : ∃ a, a ≤ k ∧ k ≤ f a
    · obtain ⟨a, ha, hfa⟩ := hex
      have main : ∀ f' : Nat → Nat, (∀ i, i < k + 1 → f' i < r) → k ≤ f' k → prodN (k + 1) z ∣ det (k + 1) (fun a b => dgM z (f' a) (c b)) := fun f' hf' hk' => by
        rw [det]
        refine dvd_sumN (k + 1) _ fun j hj => ?_
        obtain ⟨x, hx⟩ := ih (by omega) f' (fun b => c (sk j b)) (fun i hi => hf' i (by omega)) fun i hi => hcc _ (by unfold sk; split <;> omega)
        obtain ⟨y, hy⟩ : ∃ y, dgM z (f' k) (c j) = z k * y := by
          unfold dgM
          split
          · by_cases e : k = f' k
            · exact ⟨1, by rw [← e, Int.mul_one]⟩
            · obtain ⟨p, hp⟩ := hc k (f' k) (by omega) (hf' k (by omega))
              exact ⟨p, by rw [hp, Int.mul_comm]⟩
          · exact ⟨0, by rw [Int.mul_zero]⟩
        rw [hx, hy]
        exact ⟨sgnN (k + j) * y * x, by show _ = prodN k z * z k * _; ac_rfl⟩
      by_cases e : a = k
      · subst e
        exact main f hf hfa
      · have h1 := main (fun i => f (sw a k i)) (fun i hi => hf _ (by unfold sw; split <;> (try split) <;> omega)) (by show k ≤ f (sw a k k); unfold sw; rw [if_neg (Ne.symm e), if_pos rfl]; exact hfa)
        have h2 : det (k + 1) (fun i b => dgM z (f (sw a k i)) (c b)) = - det (k + 1) (fun i b => dgM z (f i) (c b)) := by
          rw [← det_swap (k + 1) _ a k (by omega) (by omega)]
          exact det_congr fun i b _ _ => by rw [swapRows_sw]
        rw [h2] at h1
        exact Int.dvd_neg.1 h1
    · obtain ⟨i, l, h1, h2, h3⟩ := pigeon k f fun i hi => by
        rcases Nat.lt_or_ge (f i) k with h | h
        · exact h
        · exact absurd ⟨i, hi, h⟩ hex
      rw [det_alt (k + 1) _ i l h1 (by omega) fun b => by rw [h3]]
      exact Int.dvd_zero _

end

theorem inv_le {r s : Nat} {y z : Nat → Int} (pz : ∀ i, i < s → 0 < z i) (h : ∀ k g, Dv k r r (dgM y) g → Dv k s s (dgM z) g) : s ≤ r := by
  rcases Nat.lt_or_ge r s with hl | hl
  · have h1 := h (r + 1) 0 (dv_over r r _) (fun i => i) (fun i => i) (fun i hi => by show i < s; omega) fun i hi => by show i < s; omega
    have h2 : det (r + 1) (fun a b => dgM z a b) = prodN (r + 1) z := det_dg (r + 1) z
    rw [h2] at h1
    have h3 := Int.zero_dvd.1 h1
    have h4 := prodN_pos (r + 1) z fun i hi => pz i (by omega)
    omega
  · exact hl

theorem inv_dvd {r : Nat} {y z : Nat → Int} (hc : ∀ i j, i < j → j < r → ∃ p, y j = p * y i) (h : ∀ k g, Dv k r r (dgM y) g → Dv k r r (dgM z) g) {k : Nat} (hk : k ≤ r) : prodN k y ∣ prodN k z := by
  have h1 := h k _ (dv_dg hc k hk) (fun i => i) (fun i => i) (fun i hi => by show i < r; omega) fun i hi => by show i < r; omega
  have h2 : det k (fun a b => dgM z a b) = prodN k z := det_dg k z
  rwa [h2] at h1

theorem prod_same {r : Nat} {y z : Nat → Int} (py : ∀ i, i < r → 0 < y i) (h : ∀ k, k ≤ r → prodN k y = prodN k z) : ∀ i, i < r → y i = z i := fun i hi => by
  have h1 := h i (by omega); have h2 := h (i + 1) (by omega)
  rw [prodN, prodN, ← h1] at h2
  have h3 := prodN_pos i y fun j hj => py j (by omega)
  exact Int.eq_of_mul_eq_mul_left (by omega) h2

/-- Invariants are told by what goes into the determinants. -/
theorem inv_one {ys zs : List Int} (py : ∀ i, i < ys.length → 0 < ys.getD i 0) (pz : ∀ i, i < zs.length → 0 < zs.getD i 0) (cy : ∀ i j, i < j → j < ys.length → ∃ p, ys.getD j 0 = p * ys.getD i 0) (cz : ∀ i j, i < j → j < zs.length → ∃ p, zs.getD j 0 = p * zs.getD i 0)
    (h : ∀ k g, Dv k ys.length ys.length (dgM fun i => ys.getD i 0) g ↔ Dv k zs.length zs.length (dgM fun i => zs.getD i 0) g) : ys = zs := by
  have hl : ys.length = zs.length := Nat.le_antisymm (inv_le py fun k g => (h k g).2) (inv_le pz fun k g => (h k g).1)
  rw [← hl] at h cz
  refine list_ext hl fun i hi => ?_
  refine prod_same (y := fun i => ys.getD i 0) (z := fun i => zs.getD i 0) py (fun k hk => ?_) i hi
  refine Int.dvd_antisymm ?_ ?_ (inv_dvd cy (fun k g => (h k g).1) hk) (inv_dvd cz (fun k g => (h k g).2) hk)
  · have := prodN_pos k (fun i => ys.getD i 0) fun j hj => py j (by omega); omega
  · have := prodN_pos k (fun i => zs.getD i 0) fun j hj => pz j (by omega); omega

theorem dv_alike {k n : Nat} {g : Int} {F G : List (List Int)} (hF : ∀ u ∈ F, u.length = n) (a : Alikes n (InL F) (InL G)) (h : Dv k G.length n (ent G) g) : Dv k F.length n (ent F) g := by
  obtain ⟨C, hC⟩ := rows_coef (r := F.length) (n := n) (mm := G.length) (H := ent F) (M := ent G) fun i hi => by
    have hm : F.getD i [] ∈ F := getD_mem hi
    exact lat_inL ((a _).1 (.base hm (hF _ hm)))
  exact h.left (T := C) fun x y hx hy => hC x y hx hy

theorem ent_colsL {ms : List (List Int)} {n j b : Nat} (hj : j < n) (hb : b < ms.length) : ent (colsL ms n) j b = ent ms b j := by
  unfold ent
  rw [colsL_get ms n j hj, map_getD0 ms (fun r => r.getD j 0) b hb]

theorem dv_cols {k n : Nat} {g : Int} {ms : List (List Int)} : Dv k ms.length n (ent ms) g ↔ Dv k n ms.length (ent (colsL ms n)) g :=
  ⟨fun h => h.tr.congr fun _ _ hi hj => ent_colsL hi hj, fun h => h.tr.congr fun _ _ hi hj => (ent_colsL hj hi).symm⟩

/-- What goes into the determinants of rows, and of their invariants. -/
theorem smith_dv {n : Nat} {ms hs fs : List (List Int)} {p : Nat → Nat} {ys : List Int} {D : Int} (F : FormL n hs p) (a : Alikes n (InL hs) (InL ms)) (hm : ∀ u ∈ ms, u.length = n) (T : TurnF n hs fs) (C : ChI hs.length ys D (ent fs) hs.length (hs.length + 1)) (k : Nat) (g : Int) :
    Dv k ms.length n (ent ms) g ↔ Dv k ys.length ys.length (dgM fun i => ys.getD i 0) g := by
  rw [C.len]
  constructor
  · intro h
    have h1 := dv_cols.1 (dv_alike F.len a h)
    have h2 : Dv k (colsL hs n).length hs.length (ent (colsL hs n)) g := by rw [colsL_length]; exact h1
    have h3 := dv_alike T.lens T.alike h2
    rw [T.len] at h3
    exact h3.equ C.rel
  · intro h
    have h1 := h.equ C.rel.symm
    have h2 : Dv k fs.length hs.length (ent fs) g := by rw [T.len]; exact h1
    have h3 := dv_alike (colsL_len hs n) T.alike.symm h2
    rw [colsL_length] at h3
    exact dv_alike hm a.symm (dv_cols.2 h3)

end Go.Proofs.YtmeefloajhffbaaDoor

/- A vector that grows at its end; texts that do. -/
namespace Go.Proofs.YtmeefloajhffbaaDoor
open Go.RowKit Limbs

/-- Limbs that don't lie in that block. -/
def apart (og : Option Nat) (s : Value) : Prop := ∀ a l c, s = .slice (some a) l c → 0 < l → some a.block ≠ og

theorem Lim.grown {W W' : World} {row : Option Nat} {s : Value} {zs : List Int} (h : Lim W s zs) (hg : W.grownBy W' row) (hne : apart row s) : Lim W' s zs := by
  obtain ⟨ao, cap, rfl, h1, h2, h3, h4⟩ := h
  refine ⟨ao, cap, rfl, h1, h2, h3, fun h0 => ?_⟩
  obtain ⟨b, off, rfl, hlt, hc⟩ := h4 h0
  have hb := hne _ _ _ rfl h0
  exact ⟨b, off, rfl, Nat.lt_of_lt_of_le hlt hg.size, fun i hi => hg.cell (hc i hi) hb⟩

def Nm.val (r : Nm) : Value := .agg #[.bool r.neg, .slice r.o r.l r.c]
def Nm.sl (r : Nm) : Value := .slice r.o r.l r.c
def ncells (p : Nm × Int) : List Value := [.bool p.1.neg, .slice p.1.o p.1.l p.1.c]

theorem NumL.grown {W W' : World} {row : Option Nat} {r : Nm} {z : Int} {n : Nat} (h : NumL W r.val z n) (hg : W.grownBy W' row) (hne : apart row r.sl) : NumL W' r.val z n := by
  obtain ⟨neg, s, zs, e, hl, h3⟩ := h
  simp only [Nm.val, Value.agg.injEq, Array.mk.injEq, List.cons.injEq, Value.bool.injEq, and_true] at e
  obtain ⟨rfl, rfl⟩ := e
  exact ⟨_, _, zs, rfl, hl.grown hg hne, h3⟩

theorem NumL.inside {W : World} {r : Nm} {z : Int} {n : Nat} (h : NumL W r.val z n) : ∀ a l c, r.sl = .slice (some a) l c → 0 < l → a.block < W.heap.size := fun a l c e h0 => by
  obtain ⟨neg, s, zs, e1, hl, -⟩ := h
  simp only [Nm.val, Value.agg.injEq, Array.mk.injEq, List.cons.injEq, Value.bool.injEq, and_true] at e1
  obtain ⟨rfl, rfl⟩ := e1
  obtain ⟨ao, cap, e2, -, -, -, h4⟩ := hl
  unfold Nm.sl at e
  rw [e] at e2
  simp only [Value.slice.injEq] at e2
  obtain ⟨rfl, rfl, rfl⟩ := e2
  obtain ⟨b, off, e3, hlt, -⟩ := h4 h0
  simp only [Option.some.injEq] at e3
  rw [e3]
  exact hlt

/-- A row of numbers in memory of its own, that may grow. -/
def Grow (W : World) (base : Nat) (v : Value) (ps : List (Nm × Int)) (n : Nat) : Prop :=
  W.ownsRow base 26 2 v ps.length (ps.flatMap ncells) ∧ ∀ p ∈ ps, NumL W p.1.val p.2 n ∧ apart v.ownBlock p.1.sl

theorem Grow.nil (W : World) (base n : Nat) : Grow W base (.slice none 0 0) [] n := ⟨World.ownsRow_nil _ _ _ _, fun _ h => by cases h⟩

theorem Grow.later {W W' : World} {base : Nat} {v : Value} {ps : List (Nm × Int)} {n : Nat} (h : Grow W base v ps n) (hb : Below W.heap.size W W') : Grow W' base v ps n := by
  refine ⟨?_, fun p hp => ⟨(h.2 p hp).1.below hb (Nat.le_refl _), (h.2 p hp).2⟩⟩
  refine ⟨h.1.1, ?_⟩
  rcases h.1.2 with hn | ⟨g, cap, cur, e, hbg, hh, rest⟩
  · exact .inl hn
  · exact .inr ⟨g, cap, cur, e, hbg, (hb.block _ (heap_lt hh)).trans hh, rest⟩

theorem grow_snoc {base : Nat} {wr w3 : World} {v : Value} {ps : List (Nm × Int)} {n : Nat} {r : Nm} {z : Int} {g cap : Nat} {ob : Obj} (h : Grow wr base v ps n) (hz : NumL wr r.val z n) (ha : apart v.ownBlock r.sl)
    (hown : w3.ownsRow base 26 2 (.slice (some ⟨g, 0, none⟩) (ps.length + 1) cap) (ps.length + 1) (ps.flatMap ncells ++ ncells (r, z)))
    (hg : (wr.alloc ob).grownBy w3 v.ownBlock) (hat : v.ownBlock = some g ∨ g = wr.heap.size + 1) : Grow w3 base (.slice (some ⟨g, 0, none⟩) (ps.length + 1) cap) (ps ++ [(r, z)]) n := by
  refine ⟨by rw [List.length_append, List.length_singleton, List.flatMap_append, List.flatMap_singleton]; exact hown, fun p hp => ?_⟩
  have key : ∀ p : Nm × Int, NumL wr p.1.val p.2 n → apart v.ownBlock p.1.sl → NumL w3 p.1.val p.2 n ∧ apart (some g) p.1.sl := fun p h1 h2 => by
    refine ⟨(h1.below ((Below.refl _ _).alloc (Nat.le_refl _) ob) (Nat.le_refl _)).grown hg h2, fun a l c e h0 hb => ?_⟩
    rcases hat with h | h
    · exact h2 a l c e h0 (hb.trans h.symm)
    · have := h1.inside a l c e h0
      simp only [Option.some.injEq] at hb
      omega
  rcases List.mem_append.1 hp with h' | h'
  · exact key p (h.2 p h').1 (h.2 p h').2
  · rw [List.mem_singleton] at h'
    rw [h']
    exact key (r, z) hz ha

theorem grow_below {base : Nat} {wr w3 : World} {v : Value} {ps : List (Nm × Int)} {n : Nat} {ob : Obj} (h : Grow wr base v ps n) (hB : base ≤ wr.heap.size) (hg : (wr.alloc ob).grownBy w3 v.ownBlock) : Below base wr w3 :=
  ((Below.refl _ _).alloc hB _).grown hg (by simp; omega) (fun k hk => (h.1.lt k hk).1)

theorem ncells_at (ps : List (Nm × Int)) : ∀ i (h : i < ps.length), (ps.flatMap ncells)[i * 2]? = some (.bool ps[i].1.neg) ∧ (ps.flatMap ncells)[i * 2 + 1]? = some (.slice ps[i].1.o ps[i].1.l ps[i].1.c) := by
  induction ps with
  | nil => intro i h; exact absurd h (by simp)
  | cons p ps ih =>
    intro i h
    rw [List.flatMap_cons]
    cases i with
    | zero => exact ⟨rfl, rfl⟩
    | succ i =>
      obtain ⟨h1, h2⟩ := ih i (by simpa using h)
      have e1 : (i + 1) * 2 = i * 2 + 2 := by omega
      rw [e1, show i * 2 + 2 + 1 = i * 2 + 1 + 2 by omega, List.getElem?_append_right (by simp [ncells]), List.getElem?_append_right (by simp [ncells])]
      exact ⟨h1, h2⟩

/-- It is a vector of these numbers. -/
theorem Grow.vec {W : World} {base : Nat} {v : Value} {ps : List (Nm × Int)} {n : Nat} (h : Grow W base v ps n) : VecN W v (ps.map (·.2)) n := by
  obtain ⟨⟨-, h1⟩, h2⟩ := h
  have hlen : (ps.map (·.2)).length = ps.length := List.length_map ..
  rcases h1 with ⟨rfl, hn⟩ | ⟨g, cap, cur, rfl, hb, hh, hc1, hc2, hc3, hc4⟩
  · exact ⟨none, 0, by rw [hlen, hn], by rw [hlen]; omega, fun h0 => absurd h0 (by rw [hlen]; omega)⟩
  · refine ⟨_, cap, by rw [hlen], by rw [hlen]; exact hc1, fun h0 => ⟨g, 0, rfl, heap_lt hh, fun i hi => ?_⟩⟩
    rw [hlen] at hi
    obtain ⟨e1, e2⟩ := ncells_at ps i hi
    have hcell : ∀ k u, k < ps.length * 2 → (ps.flatMap ncells)[k]? = some u → W.cell? ⟨g, 0 + k, none⟩ = some u := fun k u hk hu => by
      have := World.news_of_block hh k u (by rw [← hc4, List.getElem?_take, if_pos hk] at hu; exact hu)
      have e : (⟨g, 0, none⟩ : Addr).add k = ⟨g, 0 + k, none⟩ := by unfold Addr.add; split <;> simp_all
      rwa [e] at this
    refine ⟨ps[i].1.neg, ps[i].1.o, ps[i].1.l, ps[i].1.c, hcell _ _ (by omega) e1, hcell _ _ (by omega) e2, ?_⟩
    have e3 : (ps.map (·.2)).getD i 0 = ps[i].2 := by
      rw [List.getD_eq_getElem?_getD, List.getElem?_map, List.getElem?_eq_getElem hi]; rfl
    rw [e3]
    exact (h2 _ (List.getElem_mem hi)).1

end Go.Proofs.YtmeefloajhffbaaDoor
