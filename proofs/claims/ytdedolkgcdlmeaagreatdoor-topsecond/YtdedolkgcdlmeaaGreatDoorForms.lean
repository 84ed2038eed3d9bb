/- What tidying makes of the rows. -/
import Derived.Test.YtdedolkgcdlmeaaGreatDoorInsert
import Derived.Test.YtdedolkgcdlmeaaGreatDoorHerm
import Derived.Test.YtdedolkgcdlmeaaGreatDoorDetC
namespace Go.Proofs.YtdedolkgcdlmeaaGreatDoor
open Go.RowKit Limbs

/-- A place that is tidied stays. -/
theorem tidyN_stays {rows : Nat → Option (List Int)} {m k l a : Nat} (hkl : k ≤ l) (hl : l ≤ m) (ha : m - k ≤ a) : tidyN rows m l a = tidyN rows m k a := by
  induction l with
  | zero => obtain rfl : k = 0 := by omega
            rfl
  | succ l ih =>
    by_cases e : k = l + 1
    · rw [e]
    · have : tidyN rows m (l + 1) a = tidyAt (tidyN rows m l) m (m - 1 - l) a := rfl
      rw [this]
      unfold tidyAt
      rw [if_neg (by omega)]
      exact ih (by omega) (by omega)

/-- Lowered: from the first place on each number at a pivot is from nought on and less than it. -/
theorem lowN_small {rows : Nat → Option (List Int)} {f len m : Nat} {us : List Int} (h : Ech rows len m) (hm : m ≤ len) (hus : us.length = len) (hp : ∀ i r, rows i = some r → 0 < r.getD i 0) (k i : Nat) (r : List Int) (hi : f ≤ i) (hik : i < f + k) (hr : rows i = some r) :
    0 ≤ (lowN rows f us k).getD i 0 ∧ (lowN rows f us k).getD i 0 < r.getD i 0 := by
  have hl : ∀ i r, rows i = some r → r.length = us.length := fun i r e => (h.len i r e).trans hus.symm
  have him := h.lt i r hr
  induction k with
  | zero => omega
  | succ k ih =>
    have hlk := lowN_len (f := f) hl k
    unfold lowN lowAt
    by_cases e : i = f + k
    · subst e
      rw [hr]
      dsimp only
      unfold lowRow
      rw [zip_getD _ _ _ (hlk.trans (hl _ r hr).symm) _ (by omega)]
      have hy := hp _ r hr
      generalize (lowN rows f us k).getD (f + k) 0 = a at *
      generalize r.getD (f + k) 0 = y at *
      have h1 := Int.emod_nonneg a (show y ≠ 0 by omega)
      have h2 := Int.emod_lt_of_pos a hy
      have h3 := Int.mul_ediv_add_emod a y
      rw [Int.one_mul, Int.neg_mul, Int.mul_comm]
      omega
    · have ih := ih (by omega)
      split
      · exact ih
      · rename_i r' hr'
        unfold lowRow
        rw [zip_getD _ _ _ (hlk.trans (hl _ r' hr').symm) _ (by omega), h.zero _ r' hr' i (by omega)]
        omega

/-- Pivots are above nought. -/
def Pos (rows : Nat → Option (List Int)) : Prop := ∀ i r, rows i = some r → 0 < r.getD i 0

theorem Pos.tidyN {rows : Nat → Option (List Int)} {len m : Nat} (hp : Pos rows) (h : Ech rows len m) (hm : m ≤ len) (k : Nat) : Pos (tidyN rows m k) := by
  induction k with
  | zero => exact hp
  | succ k ih =>
    intro i r e
    have hE := h.all hm k
    have e' : tidyAt (Go.Proofs.YtdedolkgcdlmeaaGreatDoor.tidyN rows m k) m (m - 1 - k) i = some r := e
    unfold tidyAt at e'
    by_cases hi : i = m - 1 - k
    · rw [if_pos hi] at e'
      obtain ⟨r0, e0, rfl⟩ := Option.map_eq_some_iff.1 e'
      rw [← hi] at e0 ⊢
      have hl0 := hE.len _ _ e0
      have hlt := hE.lt _ _ e0
      rw [lowN_keep (fun i r e => (hE.len i r e).trans hl0.symm) (by omega) (fun i' r' hi' e' => hE.zero i' r' e' i (by omega))]
      exact ih i r0 e0
    · rw [if_neg hi] at e'
      exact ih i r e'

/-- Tidied rows: above a pivot all is from nought on and less than it. -/
theorem tidy_small {rows : Nat → Option (List Int)} {len m : Nat} (hp : Pos rows) (h : Ech rows len m) (hm : m ≤ len) {i j : Nat} {ri rj : List Int} (hij : i < j) (hi : tidyN rows m m i = some ri) (hj : tidyN rows m m j = some rj) : 0 ≤ ri.getD j 0 ∧ ri.getD j 0 < rj.getD j 0 := by
  have hjm := (h.all hm m).lt j rj hj
  have hE := h.all hm (m - 1 - i)
  rw [tidyN_stays (k := m - 1 - i) (by omega) (Nat.le_refl _) (by omega)] at hj
  rw [tidyN_stays (k := m - 1 - i + 1) (by omega) (Nat.le_refl _) (by omega)] at hi
  have e' : tidyAt (tidyN rows m (m - 1 - i)) m (m - 1 - (m - 1 - i)) i = some ri := hi
  unfold tidyAt at e'
  have ei : m - 1 - (m - 1 - i) = i := by omega
  rw [ei, if_pos rfl] at e'
  obtain ⟨r0, e0, rfl⟩ := Option.map_eq_some_iff.1 e'
  exact lowN_small hE hm (hE.len _ _ e0) (hp.tidyN h hm _) _ j rj (by omega) (by omega) hj

/-- The places where rows are, in their order. -/
theorem places (T : Nat → Option (List Int)) (m : Nat) : ∃ (r : Nat) (p : Nat → Nat), (∀ k, k < r → p k < m ∧ ∃ v, T (p k) = some v) ∧ (∀ i k, i < k → k < r → p i < p k) ∧ (∀ i, i < m → ∀ v, T i = some v → ∃ k, k < r ∧ p k = i) := by
  induction m with
  | zero => exact ⟨0, fun _ => 0, fun k hk => absurd hk (Nat.not_lt_zero k), fun i k _ hk => absurd hk (Nat.not_lt_zero k), fun i hi => absurd hi (Nat.not_lt_zero i)⟩
  | succ m ih =>
    obtain ⟨r, p, h1, h2, h3⟩ := ih
    cases e : T m with
    | none =>
      refine ⟨r, p, fun k hk => ⟨Nat.lt_succ_of_lt (h1 k hk).1, (h1 k hk).2⟩, h2, fun i hi v hv => ?_⟩
      by_cases him : i = m
      · rw [him, e] at hv; cases hv
      · exact h3 i (by omega) v hv
    | some w =>
      refine ⟨r + 1, fun k => if k = r then m else p k, fun k hk => ?_, fun i k hik hk => ?_, fun i hi v hv => ?_⟩
      · dsimp only
        by_cases hkr : k = r
        · rw [if_pos hkr]; exact ⟨Nat.lt_succ_self m, w, e⟩
        · rw [if_neg hkr]; exact ⟨Nat.lt_succ_of_lt (h1 k (by omega)).1, (h1 k (by omega)).2⟩
      · dsimp only
        rw [if_neg (show i ≠ r by omega)]
        by_cases hkr : k = r
        · rw [if_pos hkr]; exact (h1 i (by omega)).1
        · rw [if_neg hkr]; exact h2 i k hik (by omega)
      · by_cases him : i = m
        · exact ⟨r, Nat.lt_succ_self r, by dsimp only; rw [if_pos rfl, him]⟩
        · obtain ⟨k, hk, hpk⟩ := h3 i (by omega) v hv
          exact ⟨k, Nat.lt_succ_of_lt hk, by dsimp only; rw [if_neg (by omega)]; exact hpk⟩

/-- Tidied rows are in the one form. -/
theorem tidy_form {rows : Nat → Option (List Int)} {m : Nat} (hp : Pos rows) (h : Ech rows m m) : ∃ (r : Nat) (p : Nat → Nat), Form r m (fun k b => ((tidyN rows m m (p k)).getD []).getD b 0) p ∧ (∀ k, k < r → ∃ v, tidyN rows m m (p k) = some v) ∧ (∀ i v, tidyN rows m m i = some v → ∃ k, k < r ∧ p k = i) := by
  obtain ⟨r, p, h1, h2, h3⟩ := places (tidyN rows m m) m
  have hE := h.all (Nat.le_refl m) m
  refine ⟨r, p, ⟨h2, fun i hi => (h1 i hi).1, fun i b hi hb => ?_, fun i hi => ?_, fun i k hik hk => ?_⟩, fun k hk => (h1 k hk).2, fun i v hv => h3 i (hE.lt i v hv) v hv⟩
  · obtain ⟨-, v, e⟩ := h1 i hi
    rw [e]
    exact hE.zero _ v e b hb
  · obtain ⟨-, v, e⟩ := h1 i hi
    rw [e]
    exact hp.tidyN h (Nat.le_refl m) m _ v e
  · obtain ⟨-, v, e⟩ := h1 i (by omega)
    obtain ⟨-, v', e'⟩ := h1 k hk
    rw [e, e']
    exact tidy_small hp h (Nat.le_refl m) (h2 i k hik hk) e e'

/-- What is generated is a sum of multiples. -/
theorem Gens.lat {len : Nat} {S : List Int → Prop} {x : List Int} (h : Gens len S x) (r : Nat) (M : Nat → Nat → Int) (hS : ∀ v, S v → v.length = len → ∃ k, k < r ∧ ∀ b, b < len → v.getD b 0 = M k b) : Lat r len M (fun b => x.getD b 0) := by
  induction h with
  | base hs hl =>
    obtain ⟨k, hk, e⟩ := hS _ hs hl
    obtain ⟨c, hc⟩ := Lat.row r len M k hk
    exact ⟨c, fun b hb => (e b hb).trans (hc b hb)⟩
  | zero =>
    refine ⟨fun _ => 0, fun b hb => ?_⟩
    have e : (List.replicate len (0 : Int)).getD b 0 = 0 := by
      rw [List.getD_eq_getElem?_getD, List.getElem?_replicate]
      split <;> rfl
    have z : ∀ r, sumN r (fun k => 0 * M k b) = 0 := fun r => by
      induction r with
      | zero => rfl
      | succ r ih => simp [sumN] at ih ⊢; omega
    exact e.trans (z r).symm
  | comb x y hu hv h1 h2 =>
    obtain ⟨c, hc⟩ := Lat.comb h1 h2 x y
    exact ⟨c, fun b hb => (zip_getD _ _ _ (hu.len.trans hv.len.symm) b (by rw [hu.len]; exact hb)).trans (hc b hb)⟩

theorem rows_coef {r n mm : Nat} {H M : Nat → Nat → Int} (h : ∀ a, a < r → Lat mm n M (H a)) : ∃ C : Nat → Nat → Int, ∀ a b, a < r → b < n → H a b = sumN mm (fun k => C a k * M k b) := by
  refine ⟨fun a => if ha : a < r then Classical.choose (h a ha) else fun _ => 0, fun a b ha hb => ?_⟩
  dsimp only
  rw [dif_pos ha]
  exact Classical.choose_spec (h a ha) b hb

/-- The numbers of tidied rows are bounded by those of what generates the same. -/
theorem tidy_bound {rows : Nat → Option (List Int)} {m : Nat} (hp : Pos rows) (h : Ech rows m m) {S : List Int → Prop} (ha : Alikes m (RowsOf rows) S) (mm : Nat) (M : Nat → Nat → Int) (Bd : Int) (hBd : 0 ≤ Bd) (hM : ∀ a b, a < mm → b < m → absI (M a b) ≤ Bd)
    (hS : ∀ v, S v → v.length = m → ∃ k, k < mm ∧ ∀ b, b < m → v.getD b 0 = M k b) (hS' : ∀ k, k < mm → ∃ v, S v ∧ v.length = m ∧ ∀ b, b < m → v.getD b 0 = M k b) :
    ∃ r, r ≤ m ∧ r ≤ mm ∧ ∀ i v, tidyN rows m m i = some v → ∀ b, b < m → absI (v.getD b 0) ≤ r * facP r Bd := by
  obtain ⟨r, p, F, h1, h2⟩ := tidy_form hp h
  have hE := h.all (Nat.le_refl m) m
  have hT := alikes_tidy h (Nat.le_refl m) m
  have hrm : ∀ k, k < r → k ≤ p k := fun k => by
    induction k with
    | zero => exact fun _ => Nat.zero_le _
    | succ k ih => intro hk; have := ih (by omega); have := F.inc k (k + 1) (by omega) hk; omega
  have hr : r ≤ m := by
    by_cases h0 : r = 0
    · omega
    · have := hrm (r - 1) (by omega); have := F.lt (r - 1) (by omega); omega
  obtain ⟨C, hC⟩ := rows_coef (r := r) (n := m) (mm := mm) (H := fun k b => ((tidyN rows m m (p k)).getD []).getD b 0) (M := M) (fun a haa => by
    obtain ⟨v, e⟩ := h1 a haa
    have g : Gens m S v := (ha v).1 ((hT v).1 (.base ⟨_, e⟩ (hE.len _ v e)))
    have := g.lat mm M hS
    simpa only [e, Option.getD_some] using this)
  obtain ⟨T, hTT⟩ := rows_coef (r := mm) (n := m) (mm := r) (H := M) (M := fun k b => ((tidyN rows m m (p k)).getD []).getD b 0) (fun a haa => by
    obtain ⟨v, hv, hvl, e⟩ := hS' a haa
    have g : Gens m (RowsOf (tidyN rows m m)) v := (hT v).2 ((ha v).2 (.base hv hvl))
    obtain ⟨c, hc⟩ := g.lat r (fun k b => ((tidyN rows m m (p k)).getD []).getD b 0) (fun u hu hul => by
      obtain ⟨i, ei⟩ := hu
      obtain ⟨k, hk, rfl⟩ := h2 i u ei
      exact ⟨k, hk, fun b _ => by rw [ei]; rfl⟩)
    exact ⟨c, fun b hb => (e b hb).symm.trans (hc b hb)⟩)
  refine ⟨r, hr, rank_le r mm m _ M C p F.lt (fun i k hi hki => F.zero i (p k) hi (F.inc k i hki hi)) (fun i hi => F.pos i hi) hC, fun i v e b hb => ?_⟩
  obtain ⟨k, hk, rfl⟩ := h2 i v e
  have := form_bound r mm m (fun k b => ((tidyN rows m m (p k)).getD []).getD b 0) M C T p Bd hBd F.lt (fun i k hi hki => F.zero i (p k) hi (F.inc k i hki hi)) (fun i hi => F.pos i hi) (fun i k hi hk hik => ⟨(F.red i k hik hk).1, Int.le_of_lt (F.red i k hik hk).2⟩) hC hTT hM k b hk hb
  simpa only [e, Option.getD_some] using this

end Go.Proofs.YtdedolkgcdlmeaaGreatDoor
