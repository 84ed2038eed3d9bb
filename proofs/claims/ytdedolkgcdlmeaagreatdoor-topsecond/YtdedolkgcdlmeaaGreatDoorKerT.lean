/- What rows make nought of: how much of it there is; of its places all is made. No Go in it. -/
import Derived.Test.YtdedolkgcdlmeaaGreatDoorKerL
namespace Go.Proofs.YtdedolkgcdlmeaaGreatDoor
open Go.RowKit Limbs

/-- A row's number. -/
def ent (ts : List (List Int)) (k b : Nat) : Int := (ts.getD k []).getD b 0

theorem sumN_cut (c m : Nat) (f : Nat → Int) (h : ∀ k, c ≤ k → k < c + m → f k = 0) : sumN (c + m) f = sumN c f := by
  induction m with
  | zero => rfl
  | succ m ih =>
    have e : sumN (c + (m + 1)) f = sumN (c + m) f + f (c + m) := rfl
    rw [e, ih fun k h1 h2 => h k h1 (by omega), h (c + m) (by omega) (by omega), Int.add_zero]

/-- No more rows in the one form than rows that generate the same. -/
theorem form_le {n : Nat} {hs ks : List (List Int)} {p : Nat → Nat} (F : FormL n hs p) (a : Alikes n (InL hs) (InL ks)) : hs.length ≤ ks.length := by
  obtain ⟨C, hC⟩ := rows_coef (r := hs.length) (n := n) (mm := ks.length) (H := ent hs) (M := ent ks) fun k hk => by
    have hm : hs[k] ∈ hs := List.getElem_mem hk
    have g := lat_inL ((a hs[k]).1 (.base hm (F.len _ hm)))
    have e : ent hs k = fun b => hs[k].getD b 0 := by funext b; unfold ent; rw [getD_row hk]
    rw [e]; exact g
  exact rank_le hs.length ks.length n (ent hs) (ent ks) C p F.form.lt (fun i k hi hki => F.form.zero i (p k) hi (F.form.inc k i hki hi)) (fun i hi => F.form.pos i hi) hC

section
variable {hs ts : List (List Int)} {n : Nat} {ph p : Nat → Nat}

end

/-- Places as rows. -/
def colsL (ks : List (List Int)) (n : Nat) : List (List Int) := (List.range n).map fun j => ks.map fun r => r.getD j 0

theorem colsL_length (ks : List (List Int)) (n : Nat) : (colsL ks n).length = n := by simp [colsL]

theorem colsL_len (ks : List (List Int)) (n : Nat) : ∀ r ∈ colsL ks n, r.length = ks.length := fun r hr => by
  obtain ⟨j, -, rfl⟩ := List.mem_map.1 hr
  rw [List.length_map]

theorem colsL_get (ks : List (List Int)) (n j : Nat) (hj : j < n) : (colsL ks n).getD j [] = ks.map fun r => r.getD j 0 := by
  rw [getD_row (by rw [colsL_length]; exact hj)]
  simp [colsL]

/-- Units as rows. -/
def idL (r : Nat) : List (List Int) := (List.range r).map (unitL r)

end Go.Proofs.YtdedolkgcdlmeaaGreatDoor
