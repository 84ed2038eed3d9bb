/- Of rows in the one form: where their first numbers lie. -/
import Derived.Test.YtdedolkgcdlmeaaGreatDoorTextW
import Derived.Test.YtdedolkgcdlmeaaGreatDoorRefI
import Derived.Test.YtdedolkgcdlmeaaGreatDoorShare
import Derived.Test.YtdedolkgcdlmeaaGreatDoorRefComb
import Derived.Deep.LoopGhost

namespace Go.Proofs.YtdedolkgcdlmeaaGreatDoor
open Go.RowKit Limbs

theorem first_eq : ∀ (zs : List Int) (k : Nat), k < zs.length → (∀ j, j < k → zs.getD j 0 = 0) → zs.getD k 0 ≠ 0 → first zs = k
 | [], k, hk, _, _ => absurd hk (by simp)
 | z :: zs, 0, _, _, hne => by
  have : z ≠ 0 := by simpa using hne
  rw [first, if_neg this]; rfl
 | z :: zs, k + 1, hk, h0, hne => by
  have e : z = 0 := by simpa using h0 0 (by omega)
  have ih := first_eq zs k (by simpa using hk) (fun j hj => by simpa using h0 (j + 1) (by omega)) (by simpa using hne)
  rw [first, if_pos e, ih, if_neg (by omega)]
  omega

theorem FormL.first {n : Nat} {hs : List (List Int)} {p : Nat → Nat} (h : FormL n hs p) {k : Nat} (hk : k < hs.length) : first hs[k] = p k ∧ p k < n ∧ 0 < hs[k].getD (p k) 0 := by
 have hlen := h.len _ (List.getElem_mem hk)
 have h1 := h.form.lt k hk
 have h2 := h.form.pos k hk
 have h3 := h.form.zero k
 simp only [getD_row hk] at h2 h3
 exact ⟨first_eq _ _ (by omega) (fun j hj => h3 j hk hj) (by omega), h1, h2⟩

theorem FormL.red {n : Nat} {hs : List (List Int)} {p : Nat → Nat} (h : FormL n hs p) {i k : Nat} (hik : i < k) (hk : k < hs.length) : 0 ≤ (hs[i]'(by omega)).getD (p k) 0 ∧ (hs[i]'(by omega)).getD (p k) 0 < hs[k].getD (p k) 0 := by
 have := h.form.red i k hik hk
 simpa only [getD_row hk, getD_row (show i < hs.length by omega)] using this

def lastP (p : Nat → Nat) (k : Nat) : Int := if k = 0 then -1 else (p (k - 1) : Int)

theorem FormL.last {n : Nat} {hs : List (List Int)} {p : Nat → Nat} (h : FormL n hs p) {k : Nat} (hk : k < hs.length) : lastP p k < (p k : Int) := by
 unfold lastP
 split
 ·omega
 ·have := h.form.inc (k - 1) k (by omega) hk
  omega

end Go.Proofs.YtdedolkgcdlmeaaGreatDoor

/- How much of each row in the one form a vector is: lists. -/
namespace Go.Proofs.YtdedolkgcdlmeaaGreatDoor
open Go.RowKit Limbs

def oftL (hs : List (List Int)) (p : Nat → Nat) (xs : List Int) (k : Nat) : Int := xs.getD (p k) 0 / (hs.getD k []).getD (p k) 0

def leftL (hs : List (List Int)) (p : Nat → Nat) (zs : List Int) : Nat → List Int
 | 0 => zs
 | k + 1 => List.zipWith (fun x y => x - y) (leftL hs p zs k) ((hs.getD k []).map (oftL hs p (leftL hs p zs k) k * ·))

def muchL (hs : List (List Int)) (p : Nat → Nat) (zs : List Int) : List Int := (List.range hs.length).map fun k => oftL hs p (leftL hs p zs k) k

theorem range_getD (m : Nat) (f : Nat → Int) (k : Nat) (hk : k < m) : ((List.range m).map f).getD k 0 = f k := by
 rw [List.getD_eq_getElem?_getD, List.getElem?_map, List.getElem?_range hk]
 rfl

theorem first_neg : ∀ (zs : List Int), first zs < 0 ↔ ∀ b, b < zs.length → zs.getD b 0 = 0
 | [] => ⟨fun _ b hb => absurd hb (by simp), fun _ => by decide⟩
 | z :: zs => by
  have ih := first_neg zs
  have hge := first_ge zs
  rw [first]
  by_cases h : z = 0
  ·rw [if_pos h]
   constructor
   ·intro h1 b hb
    have h2 : first zs < 0 := by
     by_cases h3 : first zs < 0
     ·exact h3
     ·rw [if_neg h3] at h1; omega
    cases b with
    | zero => simpa using h
    | succ b => simpa using ih.1 h2 b (by simpa using hb)
   ·intro h1
    have h2 : first zs < 0 := ih.2 fun b hb => by simpa using h1 (b + 1) (by simpa using hb)
    rw [if_pos h2]; decide
  ·rw [if_neg h]
   exact ⟨fun h1 => absurd h1 (by decide), fun h1 => absurd (by simpa using h1 0 (by simp)) h⟩

end Go.Proofs.YtdedolkgcdlmeaaGreatDoor

/- The sum of two lattices: what generates it. -/
namespace Go.Proofs.YtdedolkgcdlmeaaGreatDoor
open Go.RowKit Limbs

end Go.Proofs.YtdedolkgcdlmeaaGreatDoor

/- Rows turned about, put to each other, there twice: they generate the same. -/
namespace Go.Proofs.YtdedolkgcdlmeaaGreatDoor
open Go.RowKit Limbs

def sRow (ms : List (List Int)) (b x : Nat) : List Int := if x = b then ((ms.getD x []).map (1 * ·)).map (-1 * ·) else (ms.getD x []).map (1 * ·)

def tRow (ms : List (List Int)) (a b : Nat) (z : Int) (x : Nat) : List Int :=
 if x = a ∧ a ≠ b then List.zipWith (fun x y => x + y) (sRow ms b x) ((ms.getD b []).map (z * ·)) else sRow ms b x

def tList (ms : List (List Int)) (a b : Nat) (z : Int) : Nat → List (List Int)
 | 0 => []
 | d + 1 => tList ms a b z d ++ [tRow ms a b z (ms.length - 1 - d)]

end Go.Proofs.YtdedolkgcdlmeaaGreatDoor

/- What two lattices have in common, by rows twice as wide. -/
namespace Go.Proofs.YtdedolkgcdlmeaaGreatDoor
open Go.RowKit Limbs

def wideL (n : Nat) (hs ks : List (List Int)) : List (List Int) := hs.map (fun r => r ++ r) ++ ks.map (fun r => r ++ List.replicate n 0)

end Go.Proofs.YtdedolkgcdlmeaaGreatDoor

/- Of rows in the one form those that are nought in the first half. -/
namespace Go.Proofs.YtdedolkgcdlmeaaGreatDoor
open Go.RowKit Limbs

def behindL (n : Nat) (ts : List (List Int)) : List (List Int) := (ts.filter fun r => decide ((n : Int) ≤ first r)).map (·.drop n)

theorem getD_drop' (r : List Int) (n j : Nat) : (r.drop n).getD j 0 = r.getD (n + j) 0 := by
 rw [List.getD_eq_getElem?_getD, List.getElem?_drop, List.getD_eq_getElem?_getD]

end Go.Proofs.YtdedolkgcdlmeaaGreatDoor

/- What rows make nought of, by rows with units behind them. No Go in it. -/
namespace Go.Proofs.YtdedolkgcdlmeaaGreatDoor
open Go.RowKit Limbs

def dotL (n : Nat) (r v : List Int) : Int := sumN n (fun b => r.getD b 0 * v.getD b 0)

def unitL (n j : Nat) : List Int := (List.range n).map fun b => if b = j then 1 else 0

def tracedL (ms : List (List Int)) (n : Nat) : List (List Int) := (List.range n).map fun j => (ms.map fun r => r.getD j 0) ++ unitL n j

theorem map_getD0 (ms : List (List Int)) (g : List Int → Int) (i : Nat) (hi : i < ms.length) : (ms.map g).getD i 0 = g (ms.getD i []) := by
 rw [getD_row hi, List.getD_eq_getElem?_getD, List.getElem?_eq_getElem (by rw [List.length_map]; exact hi), Option.getD_some, List.getElem_map]

end Go.Proofs.YtdedolkgcdlmeaaGreatDoor

/- What rows make nought of: how much of it there is; of its places all is made. No Go in it. -/
namespace Go.Proofs.YtdedolkgcdlmeaaGreatDoor
open Go.RowKit Limbs

def ent (ts : List (List Int)) (k b : Nat) : Int := (ts.getD k []).getD b 0

theorem sumN_cut (c m : Nat) (f : Nat → Int) (h : ∀ k, c ≤ k → k < c + m → f k = 0) : sumN (c + m) f = sumN c f := by
 induction m with
 | zero => rfl
 | succ m ih =>
  have e : sumN (c + (m + 1)) f = sumN (c + m) f + f (c + m) := rfl
  rw [e, ih fun k h1 h2 => h k h1 (by omega), h (c + m) (by omega) (by omega), Int.add_zero]

theorem form_le {n : Nat} {hs ks : List (List Int)} {p : Nat → Nat} (F : FormL n hs p) (a : Alikes n (InL hs) (InL ks)) : hs.length ≤ ks.length := by
 obtain ⟨C, hC⟩ := rows_coef (r := hs.length) (n := n) (mm := ks.length) (H := ent hs) (M := ent ks) fun k hk => by
  have hm : hs[k] ∈ hs := List.getElem_mem hk
  have g := lat_inL ((a hs[k]).1 (.base hm (F.len _ hm)))
  have e : ent hs k = fun b => hs[k].getD b 0 := by funext b; unfold ent; rw [getD_row hk]
  rw [e]; exact g
 exact rank_le hs.length ks.length n (ent hs) (ent ks) C p F.form.lt (fun i k hi hki => F.form.zero i (p k) hi (F.form.inc k i hki hi)) (fun i hi => F.form.pos i hi) hC

section
variable {hs ts : List (List Int)} {n : Nat} {ph p : Nat → Nat}

end

def colsL (ks : List (List Int)) (n : Nat) : List (List Int) := (List.range n).map fun j => ks.map fun r => r.getD j 0

theorem colsL_length (ks : List (List Int)) (n : Nat) : (colsL ks n).length = n := by simp [colsL]

theorem colsL_len (ks : List (List Int)) (n : Nat) : ∀ r ∈ colsL ks n, r.length = ks.length := fun r hr => by
 obtain ⟨j, -, rfl⟩ := List.mem_map.1 hr
 rw [List.length_map]

theorem colsL_get (ks : List (List Int)) (n j : Nat) (hj : j < n) : (colsL ks n).getD j [] = ks.map fun r => r.getD j 0 := by
 rw [getD_row (by rw [colsL_length]; exact hj)]
 simp [colsL]

def idL (r : Nat) : List (List Int) := (List.range r).map (unitL r)

end Go.Proofs.YtdedolkgcdlmeaaGreatDoor

/- Rows and places turned about again and again: what stays, and why it ends. No Go in it. -/
namespace Go.Proofs.YtdedolkgcdlmeaaGreatDoor
open Go.RowKit Limbs

theorem det_col_zero : ∀ (n : Nat) (M : Nat → Nat → Int) (c : Nat), c < n → (∀ a, a < n → M a c = 0) → det n M = 0
 | 0, _, c, hc, _ => absurd hc (Nat.not_lt_zero c)
 | n + 1, M, c, hc, h => by
  rw [det]
  refine (sumN_congr (g := fun _ => 0) fun j hj => ?_).trans (sumN_zero _)
  by_cases e : j = c
  ·rw [e, h n (by omega), Int.mul_zero, Int.zero_mul]
  ·have : det n (fun a b => M a (sk j b)) = 0 := by
    by_cases hlt : c < j
    ·exact det_col_zero n _ c (by omega) fun a ha => by
      show M a (sk j c) = 0
      rw [sk_lt hlt]; exact h a (by omega)
    ·refine det_col_zero n _ (c - 1) (by omega) fun a ha => ?_
     show M a (sk j (c - 1)) = 0
     rw [sk_ge (by omega), show c - 1 + 1 = c by omega]
     exact h a (by omega)
   rw [this, Int.mul_zero]

theorem det_low (n : Nat) (M : Nat → Nat → Int) (h : ∀ a b, a < n → b < n → a < b → M a b = 0) : det n M = prodN n (fun i => M i i) := by
 induction n with
 | zero => rfl
 | succ n ih =>
  rw [det, sumN_single (n + 1) n (by omega) _ fun j hj hne => by
   have : det n (fun a b => M a (sk j b)) = 0 := by
    refine det_col_zero n _ (n - 1) (by omega) fun a ha => ?_
    show M a (sk j (n - 1)) = 0
    rw [sk_ge (by omega), show n - 1 + 1 = n by omega]
    exact h a n (by omega) (by omega) (by omega)
   rw [this, Int.mul_zero]]
  have e : det n (fun a b => M a (sk n b)) = det n M := det_congr fun a b _ hb => by rw [sk_lt hb]
  rw [e, ih fun a b ha hb hab => h a b (by omega) (by omega) hab]
  have : sgnN (n + n) = 1 := by unfold sgnN; rw [if_pos (by omega)]
  rw [this, Int.one_mul, prodN, Int.mul_comm]

structure Sq (r : Nat) (H : List (List Int)) : Prop where
 form : FormL r H (fun k => k)
 len : H.length = r

theorem sq_of {r : Nat} {H : List (List Int)} {p : Nat → Nat} (F : FormL r H p) (hl : H.length = r) : Sq r H := by
 have h2 : ∀ d k, k + d < r → p k + d ≤ p (k + d) := fun d => by
  induction d with
  | zero => exact fun k _ => Nat.le_refl _
  | succ d ih => intro k hk; have := ih k (by omega); have := F.form.inc (k + d) (k + (d + 1)) (by omega) (by omega); omega
 have hp : ∀ k, k < r → p k = k := fun k hk => by
  have h3 := h2 (r - 1 - k) k (by omega)
  have h4 := F.form.lt (k + (r - 1 - k)) (by omega)
  have h5 := h2 k 0 (by omega)
  rw [Nat.zero_add] at h5
  omega
 refine ⟨⟨F.len, ?_⟩, hl⟩
 refine ⟨fun i k h _ => h, fun i h => by omega, fun i b hi hb => F.form.zero i b hi (by rw [hp i (by omega)]; exact hb), fun i hi => ?_, fun i k hik hk => ?_⟩
 ·have := F.form.pos i hi; rwa [hp i (by omega)] at this
 ·have := F.form.red i k hik hk; rwa [hp k (by omega)] at this

theorem sq_piv {r : Nat} {H : List (List Int)} {p : Nat → Nat} (F : FormL r H p) (hl : H.length = r) : ∀ k, k < r → p k = k := fun k hk => by
 have h2 : ∀ d k, k + d < r → p k + d ≤ p (k + d) := fun d => by
  induction d with
  | zero => exact fun k _ => Nat.le_refl _
  | succ d ih => intro k hk; have := ih k (by omega); have := F.form.inc (k + d) (k + (d + 1)) (by omega) (by omega); omega
 have h3 := h2 (r - 1 - k) k (by omega)
 have h4 := F.form.lt (k + (r - 1 - k)) (by omega)
 have h5 := h2 k 0 (by omega)
 rw [Nat.zero_add] at h5
 omega

theorem cols_count {n : Nat} {hs fs : List (List Int)} {p : Nat → Nat} (G : FormL n hs p) (a : Alikes hs.length (InL fs) (InL (colsL hs n))) (hle : fs.length ≤ hs.length) : fs.length = hs.length := by
 obtain ⟨C, hC⟩ := rows_coef (r := hs.length) (n := hs.length) (mm := fs.length) (H := fun i b => ent hs b (p (hs.length - 1 - i))) (M := ent fs) fun i hi => by
  have hj : p (hs.length - 1 - i) < n := G.form.lt _ (by omega)
  have hm : (colsL hs n).getD (p (hs.length - 1 - i)) [] ∈ colsL hs n := getD_mem (by rw [colsL_length]; exact hj)
  obtain ⟨d, hd⟩ := lat_inL ((a _).2 (.base hm (colsL_len hs n _ hm)))
  refine ⟨d, fun b hb => ?_⟩
  have e1 := hd b hb
  dsimp only at e1
  rw [colsL_get hs n _ hj, map_getD0 _ _ _ hb] at e1
  exact e1
 have := rank_le hs.length fs.length hs.length (fun i b => ent hs b (p (hs.length - 1 - i))) (ent fs) C (fun k => hs.length - 1 - k) (fun k hk => by omega)
  (fun i k hi hki => G.form.zero (hs.length - 1 - k) (p (hs.length - 1 - i)) (by omega) (G.form.inc _ _ (by omega) (by omega)))
  (fun i hi => G.form.pos (hs.length - 1 - i) (by omega)) hC
 omega

section
variable {r : Nat} {H H' : List (List Int)}

theorem Sq.low (S : Sq r H) {k b : Nat} (hk : k < r) (hb : b < k) : ent H k b = 0 := S.form.form.zero k b (by rw [S.len]; exact hk) hb
theorem Sq.pos (S : Sq r H) {k : Nat} (hk : k < r) : 0 < ent H k k := S.form.form.pos k (by rw [S.len]; exact hk)
theorem Sq.red (S : Sq r H) {i k : Nat} (hik : i < k) (hk : k < r) : 0 ≤ ent H i k ∧ ent H i k < ent H k k := S.form.form.red i k hik (by rw [S.len]; exact hk)

def diag (r : Nat) (H : List (List Int)) : Int := prodN r (fun k => ent H k k)

theorem Sq.one_le (S : Sq r H) : 1 ≤ diag r H := prodN_pos r _ fun _ hk => S.pos hk

theorem Sq.diag_le (S : Sq r H) {k : Nat} (hk : k < r) : ent H k k ≤ diag r H := prodN_ge r (fun k => ent H k k) (fun _ hk => S.pos hk) k hk

theorem Sq.ent_le (S : Sq r H) {k b : Nat} (hk : k < r) (hb : b < r) : 0 ≤ ent H k b ∧ ent H k b ≤ diag r H := by
 rcases Nat.lt_trichotomy k b with h | h | h
 ·have h1 := S.red h hb; have h2 := S.diag_le hb; omega
 ·subst h; have h1 := S.pos hk; have h2 := S.diag_le hk; omega
 ·have h1 := S.low hk h; have h2 := S.one_le; omega

theorem ent_cols (S : Sq r H) {j b : Nat} (hj : j < r) (hb : b < r) : ent (colsL H r) j b = ent H b j := by
 show ((colsL H r).getD j []).getD b 0 = _
 rw [colsL_get H r j hj, map_getD0 _ _ _ (by rw [S.len]; exact hb)]
 rfl

theorem cols_mem (S : Sq r H) {j : Nat} (hj : j < r) : Gens r (InL (colsL H r)) ((colsL H r).getD j []) := by
 have hm : (colsL H r).getD j [] ∈ colsL H r := getD_mem (by rw [colsL_length]; exact hj)
 exact .base hm (by rw [colsL_len H r _ hm, S.len])

theorem Sq.step (S : Sq r H) {p : Nat → Nat} (F : FormL r H' p) (a : Alikes r (InL H') (InL (colsL H r))) : Sq r H' ∧ diag r H' = diag r H := by
 have h1 := form_le F a
 rw [colsL_length] at h1
 have hl : H'.length = r := by
  obtain ⟨C, hC⟩ := rows_coef (r := r) (n := r) (mm := H'.length) (H := fun i b => ent (colsL H r) (r - 1 - i) b) (M := ent H') fun i hi => lat_inL ((a _).2 (cols_mem S (j := r - 1 - i) (by omega)))
  have := rank_le r H'.length r (fun i b => ent (colsL H r) (r - 1 - i) b) (ent H') C (fun k => r - 1 - k) (fun k hk => by omega)
   (fun i k hi hki => by
    show ent (colsL H r) (r - 1 - i) (r - 1 - k) = 0
    rw [ent_cols S (by omega) (by omega)]
    exact S.low (by omega) (by omega))
   (fun i hi => by
    show 1 ≤ ent (colsL H r) (r - 1 - i) (r - 1 - i)
    rw [ent_cols S (by omega) (by omega)]
    exact S.pos (by omega)) hC
  omega
 have S' := sq_of F hl
 refine ⟨S', ?_⟩
 obtain ⟨C, hC⟩ := rows_coef (r := r) (n := r) (mm := r) (H := ent H') (M := ent (colsL H r)) fun k hk => by
  have hm : H'.getD k [] ∈ H' := getD_mem (by omega)
  have g := lat_inL ((a _).1 (.base hm (F.len _ hm)))
  rw [colsL_length] at g
  exact g
 obtain ⟨T, hT⟩ := rows_coef (r := r) (n := r) (mm := r) (H := ent (colsL H r)) (M := ent H') fun k hk => by
  have g := lat_inL ((a _).2 (cols_mem S hk))
  rw [hl] at g
  exact g
 have d1 : det r (ent H') = diag r H' := det_tri r _ fun i b hi hb => S'.low hi hb
 have d2 : det r (ent (colsL H r)) = diag r H := by
  rw [det_low r _ fun i b hi hb hib => by rw [ent_cols S hi hb]; exact S.low hb hib]
  unfold diag
  have : ∀ m, m ≤ r → prodN m (fun i => ent (colsL H r) i i) = prodN m (fun k => ent H k k) := fun m => by
   induction m with
   | zero => exact fun _ => rfl
   | succ m ih => intro hm; rw [prodN, prodN, ih (by omega), ent_cols S (by omega) (by omega)]
  exact this r (Nat.le_refl _)
 have e1 : diag r H' = det r C * diag r H := by
  rw [← d1, ← d2, ← det_mul]
  exact det_congr fun x y hx hy => hC x y hx hy
 have e2 : diag r H = det r T * diag r H' := by
  rw [← d1, ← d2, ← det_mul]
  exact det_congr fun x y hx hy => hT x y hx hy
 have o1 := S.one_le; have o2 := S'.one_le
 have up : ∀ {x y c : Int}, 1 ≤ x → 1 ≤ y → x = c * y → y ≤ x := fun {x y c} hx hy h => by
  rcases Int.lt_or_le 0 c with hc | hc
  ·have := Int.mul_le_mul_of_nonneg_right (show 1 ≤ c by omega) (show 0 ≤ y by omega)
   omega
  ·have := Int.mul_le_mul_of_nonneg_right hc (show 0 ≤ y by omega)
   omega
 have := up o2 o1 e1
 have := up o1 o2 e2
 omega

theorem Sq.bound (S : Sq r H) {ms : List (List Int)} (a : Alikes r (InL H) (InL ms)) (hl : ∀ us ∈ ms, us.length = r) {B : Int} (hB : 0 ≤ B) (hb : ∀ us ∈ ms, ∀ j, j < r → absI (us.getD j 0) ≤ B) : diag r H ≤ facP r B := by
 obtain ⟨C, hC⟩ := rows_coef (r := r) (n := r) (mm := ms.length) (H := ent H) (M := ent ms) fun k hk => by
  have hm : H.getD k [] ∈ H := getD_mem (by rw [S.len]; exact hk)
  exact lat_inL ((a _).1 (.base hm (S.form.len _ hm)))
 obtain ⟨T, hT⟩ := rows_coef (r := ms.length) (n := r) (mm := r) (H := ent ms) (M := ent H) fun k hk => by
  have hm : ms.getD k [] ∈ ms := getD_mem hk
  have g := lat_inL ((a _).2 (.base hm (hl _ hm)))
  rw [S.len] at g
  exact g
 have d1 : det r (ent H) = diag r H := det_tri r _ fun i b hi hb => S.low hi hb
 have o1 := S.one_le
 obtain ⟨φ, hφ, hne⟩ := choose_rows r ms.length (ent H) (ent ms) C (fun a b ha hb => hC a b ha hb) (by rw [d1]; omega) r (Nat.le_refl _)
 have hne' : det r (fun a b => ent ms (φ a) b) ≠ 0 := by
  intro h
  apply hne
  have e : det r (fun a b => if a < r then ent ms (φ a) b else ent H a b) = det r (fun a b => ent ms (φ a) b) := det_congr fun a b ha _ => if_pos ha
  exact e.trans h
 have hmul : det r (fun a b => ent ms (φ a) b) = det r (fun a k => T (φ a) k) * det r (ent H) := by
  rw [← det_mul]
  exact det_congr fun a b ha hb => hT (φ a) b (hφ a ha) hb
 have h1 := det_le (n := r) (fun a b => ent ms (φ a) b) B hB fun a b ha hb' => hb _ (getD_mem (hφ a ha)) b hb'
 rw [hmul, absI_mul, d1] at h1
 have hT0 : det r (fun a k => T (φ a) k) ≠ 0 := fun h => hne' (by rw [hmul, h, Int.zero_mul])
 have h2 : 1 ≤ absI (det r (fun a k => T (φ a) k)) := by
  have := absI_nonneg (det r (fun a k => T (φ a) k))
  have h3 : absI (det r (fun a k => T (φ a) k)) ≠ 0 := fun h => hT0 (absI_zero.1 h)
  omega
 rw [absI_of_nonneg (show 0 ≤ diag r H by omega)] at h1
 have h3 := Int.mul_le_mul_of_nonneg_right h2 (show 0 ≤ diag r H by omega)
 omega

def rowAl (r : Nat) (H : List (List Int)) (k : Nat) : Prop := ∀ b, k < b → b < r → ent H k b = 0

theorem sumN_two (n k b : Nat) (hkb : k < b) (hb : b < n) (f : Nat → Int) (h : ∀ i, i < n → i ≠ k → i ≠ b → f i = 0) : sumN n f = f k + f b := by
 have e : sumN n f = sumN n (fun j => (if j = k then f k else 0) + (if j = b then f b else 0)) := sumN_congr fun j hj => by
  by_cases h1 : j = k
  ·rw [if_pos h1, if_neg (by omega), h1, Int.add_zero]
  ·by_cases h2 : j = b
   ·rw [if_neg h1, if_pos h2, h2, Int.zero_add]
   ·rw [if_neg h1, if_neg h2, h j hj h1 h2]; rfl
 rw [e, sumN_add, sumN_single n k (by omega) _ (fun i _ hi => if_neg hi), sumN_single n b hb _ (fun i _ hi => if_neg hi), if_pos rfl, if_pos rfl]

theorem Sq.unit_row (S : Sq r H) {v : List Int} (hv : Gens r (InL H) v) {k : Nat} (hk : k < r) {e : Int} (he : ∀ b, b < r → v.getD b 0 = if b = k then e else 0) :
  (∃ t, e = t * ent H k k) ∧ (e = ent H k k → rowAl r H k) := by
 obtain ⟨d, hd⟩ := lat_inL hv
 rw [S.len] at hd
 have hd' : ∀ b, b < r → (if b = k then e else 0) = sumN r (fun j => d j * ent H j b) := fun b hb => (he b hb).symm.trans (hd b hb)
 have hpiv : ∀ j, j < r → (∀ i, i < j → d i = 0) → sumN r (fun i => d i * ent H i j) = d j * ent H j j := fun j hj h0 => by
  refine sumN_single r j hj _ fun i hi hij => ?_
  rcases Nat.lt_or_gt_of_ne hij with h | h
  ·rw [h0 i h, Int.zero_mul]
  ·rw [S.low hi h, Int.mul_zero]
 have hz : ∀ j, j < k → d j = 0 := fun j => by
  induction j using Nat.strongRecOn with
  | _ j ih =>
   intro hj
   have h1 := hd' j (by omega)
   rw [if_neg (by omega), hpiv j (by omega) fun i hi => ih i hi (by omega)] at h1
   have hp := S.pos (k := j) (by omega)
   rcases Int.mul_eq_zero.1 h1.symm with h | h
   ·exact h
   ·omega
 have hke := hd' k hk
 rw [if_pos rfl, hpiv k hk hz] at hke
 refine ⟨⟨d k, hke⟩, fun hee => ?_⟩
 have hd1 : d k = 1 := by
  have hp := S.pos hk
  rw [hee] at hke
  have : (d k - 1) * ent H k k = 0 := by rw [Int.sub_mul]; omega
  rcases Int.mul_eq_zero.1 this with h | h <;> omega
 have key : ∀ b, k < b → b < r → d b = 0 ∧ ent H k b = 0 := fun b => by
  induction b using Nat.strongRecOn with
  | _ b ih =>
   intro hkb hb
   have h1 := hd' b hb
   rw [if_neg (by omega), sumN_two r k b hkb hb _ fun i hi h2 h3 => by
    rcases Nat.lt_trichotomy i k with h | h | h
    ·rw [hz i h, Int.zero_mul]
    ·exact absurd h h2
    ·rcases Nat.lt_or_gt_of_ne h3 with h4 | h4
     ·rw [(ih i h4 h hi).1, Int.zero_mul]
     ·rw [S.low hi h4, Int.mul_zero], hd1, Int.one_mul] at h1
   have hr := S.red hkb hb
   have hp := S.pos hb
   have h0 : d b = 0 := by
    rcases Int.lt_trichotomy (d b) 0 with h | h | h
    ·have := Int.mul_le_mul_of_nonneg_right (show d b ≤ -1 by omega) (show 0 ≤ ent H b b by omega)
     omega
    ·exact h
    ·have := Int.mul_le_mul_of_nonneg_right (show 1 ≤ d b by omega) (show 0 ≤ ent H b b by omega)
     omega
   rw [h0, Int.zero_mul] at h1
   exact ⟨h0, by omega⟩
 exact fun b h1 h2 => (key b h1 h2).2

theorem Sq.first (S : Sq r H) (S' : Sq r H') (a : Alikes r (InL H') (InL (colsL H r))) {k0 : Nat} (hk0 : k0 < r) (hal : ∀ k, k < k0 → rowAl r H k) :
  (∀ k, k < k0 → ent H' k k = ent H k k ∧ rowAl r H' k) ∧ ent H' k0 k0 ≤ ent H k0 k0 ∧ (ent H' k0 k0 = ent H k0 k0 → rowAl r H' k0) := by
 have hcol : ∀ k, k ≤ k0 → ∀ b, b < r → ((colsL H r).getD k []).getD b 0 = if b = k then ent H k k else 0 := fun k hk b hb => by
  have e : ((colsL H r).getD k []).getD b 0 = ent H b k := ent_cols S (by omega) hb
  rw [e]
  rcases Nat.lt_trichotomy b k with h | h | h
  ·rw [if_neg (by omega)]; exact hal b (by omega) k h (by omega)
  ·rw [if_pos h, h]
  ·rw [if_neg (by omega)]; exact S.low hb h
 have hu := fun k (hk : k ≤ k0) => S'.unit_row ((a _).2 (cols_mem S (j := k) (by omega))) (by omega) (hcol k hk)
 have hdv : ∀ {x y t : Int}, 0 < x → 0 < y → x = t * y → y ≤ x := fun {x y t} hx hy h => by
  rcases Int.lt_or_le 0 t with hc | hc
  ·have := Int.mul_le_mul_of_nonneg_right (show 1 ≤ t by omega) (show 0 ≤ y by omega)
   omega
  ·have := Int.mul_le_mul_of_nonneg_right hc (show 0 ≤ y by omega)
   omega
 refine ⟨fun k hk => ?_, ?_, fun h => (hu k0 (Nat.le_refl _)).2 h.symm⟩
 ·obtain ⟨⟨t, ht⟩, h2⟩ := hu k (by omega)
  have hp := S.pos (k := k) (by omega)
  have hp' := S'.pos (k := k) (by omega)
  have g1 := hdv hp hp' ht
  have hm : H'.getD k [] ∈ H' := getD_mem (by rw [S'.len]; omega)
  obtain ⟨c, hc⟩ := lat_inL ((a _).1 (.base hm (S'.form.len _ hm)))
  have hck := hc k (by omega)
  rw [colsL_length] at hck
  have e1 : sumN r (fun j => c j * ((colsL H r).getD j []).getD k 0) = c k * ent H k k := by
   refine (sumN_single r k (by omega) _ fun j hj hjk => ?_).trans ?_
   ·have e : ((colsL H r).getD j []).getD k 0 = ent H k j := ent_cols S hj (by omega)
    rw [e]
    rcases Nat.lt_or_gt_of_ne hjk with h | h
    ·rw [S.low (by omega) h, Int.mul_zero]
    ·rw [hal k hk j h hj, Int.mul_zero]
   ·have e : ((colsL H r).getD k []).getD k 0 = ent H k k := ent_cols S (by omega) (by omega)
    rw [e]
  have g2 := hdv hp' hp (show ent H' k k = c k * ent H k k from hck.trans e1)
  have e3 : ent H' k k = ent H k k := by omega
  exact ⟨e3, h2 e3.symm⟩
 ·obtain ⟨⟨t, ht⟩, -⟩ := hu k0 (Nat.le_refl _)
  exact hdv (S.pos hk0) (S'.pos hk0) ht

end

def horn (W : Nat) (f : Nat → Nat) : Nat → Nat
 | 0 => 0
 | n + 1 => horn W f n * W + f n

theorem horn_eq {W : Nat} {f g : Nat → Nat} (n : Nat) (h : ∀ i, i < n → f i = g i) : horn W f n = horn W g n := by
 induction n with
 | zero => rfl
 | succ n ih => rw [horn, horn, ih fun i hi => h i (by omega), h n (by omega)]

theorem horn_lt {W : Nat} {f g : Nat → Nat} {k : Nat} (hk : f k < g k) (he : ∀ i, i < k → f i = g i) (n : Nat) (hn : k < n) (hf : ∀ i, i < n → f i < W) : horn W f n < horn W g n := by
 induction n with
 | zero => omega
 | succ n ih =>
  rw [horn, horn]
  by_cases e : k = n
  ·subst e
   rw [horn_eq k he]
   omega
  ·have h1 := ih (by omega) fun i hi => hf i (by omega)
   have h2 := hf n (by omega)
   have h3 : (horn W f n + 1) * W ≤ horn W g n * W := Nat.mul_le_mul_right _ h1
   rw [Nat.succ_mul] at h3
   omega

theorem horn_top {W : Nat} {f : Nat → Nat} (n : Nat) (hf : ∀ i, i < n → f i < W) : horn W f n < W ^ n := by
 induction n with
 | zero => exact Nat.zero_lt_one
 | succ n ih =>
  have h1 := ih fun i hi => hf i (by omega)
  have h2 := hf n (by omega)
  have h3 : (horn W f n + 1) * W ≤ W ^ n * W := Nat.mul_le_mul_right _ h1
  rw [Nat.succ_mul] at h3
  rw [horn, Nat.pow_succ]
  omega

open Classical in
noncomputable def codeK (r : Nat) (H : List (List Int)) (k : Nat) : Nat := 2 * (ent H k k).toNat + if rowAl r H k then 0 else 1

noncomputable def muS (W r : Nat) (H : List (List Int)) : Nat := horn W (codeK r H) r

theorem code_lt {r W : Nat} {H : List (List Int)} (S : Sq r H) (hW : 2 * (diag r H).toNat + 1 < W) : ∀ i, i < r → codeK r H i < W := fun i hi => by
 have h1 := S.diag_le hi; have h2 := S.pos hi
 unfold codeK
 split <;> omega

theorem mu_lt {r W : Nat} {H H' : List (List Int)} (S : Sq r H) (S' : Sq r H') (hd : diag r H' = diag r H) (a : Alikes r (InL H') (InL (colsL H r))) (hW : 2 * (diag r H).toNat + 1 < W) (hno : ¬ ∀ k, k < r → rowAl r H k) : muS W r H' < muS W r H := by
 obtain ⟨k0, ⟨hk0, hn0⟩, hle⟩ := exists_least (p := fun k => k < r ∧ ¬ rowAl r H k) (Classical.byContradiction fun h => hno fun k hk => Classical.byContradiction fun h' => h ⟨k, hk, h'⟩)
 have hal : ∀ k, k < k0 → rowAl r H k := fun k hk => Classical.byContradiction fun h => by
  have := hle k ⟨by omega, h⟩
  omega
 obtain ⟨h1, h2, h3⟩ := S.first S' a hk0 hal
 refine horn_lt (k := k0) ?_ (fun i hi => ?_) r hk0 (code_lt S' (by rw [hd]; exact hW))
 ·unfold codeK
  rw [if_neg hn0]
  have hp := S.pos hk0; have hp' := S'.pos hk0
  by_cases e : ent H' k0 k0 = ent H k0 k0
  ·rw [if_pos (h3 e), e]; omega
  ·split <;> omega
 ·obtain ⟨e1, e2⟩ := h1 i hi
  unfold codeK
  rw [e1, if_pos e2, if_pos (hal i hi)]

end Go.Proofs.YtdedolkgcdlmeaaGreatDoor
