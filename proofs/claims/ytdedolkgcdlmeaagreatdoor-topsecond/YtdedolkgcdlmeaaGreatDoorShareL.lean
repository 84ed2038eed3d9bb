/- How much of each row in the one form a vector is: lists. -/
import Derived.Test.YtdedolkgcdlmeaaGreatDoorShare
import Derived.Test.YtdedolkgcdlmeaaGreatDoorFormP
namespace Go.Proofs.YtdedolkgcdlmeaaGreatDoor
open Go.RowKit Limbs

/-- The row's share of what is left. -/
def oftL (hs : List (List Int)) (p : Nat → Nat) (xs : List Int) (k : Nat) : Int := xs.getD (p k) 0 / (hs.getD k []).getD (p k) 0

/-- What is left once rows are taken off. -/
def leftL (hs : List (List Int)) (p : Nat → Nat) (zs : List Int) : Nat → List Int
  | 0 => zs
  | k + 1 => List.zipWith (fun x y => x - y) (leftL hs p zs k) ((hs.getD k []).map (oftL hs p (leftL hs p zs k) k * ·))

/-- How much of each row. -/
def muchL (hs : List (List Int)) (p : Nat → Nat) (zs : List Int) : List Int := (List.range hs.length).map fun k => oftL hs p (leftL hs p zs k) k

theorem muchL_len (hs : List (List Int)) (p : Nat → Nat) (zs : List Int) : (muchL hs p zs).length = hs.length := by unfold muchL; simp

theorem range_getD (m : Nat) (f : Nat → Int) (k : Nat) (hk : k < m) : ((List.range m).map f).getD k 0 = f k := by
  rw [List.getD_eq_getElem?_getD, List.getElem?_map, List.getElem?_range hk]
  rfl

theorem muchL_getD (hs : List (List Int)) (p : Nat → Nat) (zs : List Int) (k : Nat) (hk : k < hs.length) : (muchL hs p zs).getD k 0 = oftL hs p (leftL hs p zs k) k := range_getD _ _ k hk

theorem leftL_len {n : Nat} {hs : List (List Int)} {p : Nat → Nat} (hF : FormL n hs p) {zs : List Int} (hz : zs.length = n) : ∀ k, k ≤ hs.length → (leftL hs p zs k).length = n
  | 0, _ => hz
  | k + 1, hk => by
    have h1 := leftL_len hF hz k (by omega)
    have h2 := hF.len _ (getD_mem (show k < hs.length by omega))
    have el : leftL hs p zs (k + 1) = List.zipWith (fun x y => x - y) (leftL hs p zs k) ((hs.getD k []).map (oftL hs p (leftL hs p zs k) k * ·)) := rfl
    rw [el, zip_len _ _ _ (by rw [List.length_map, h1, h2])]
    exact h1

theorem leftL_get {n : Nat} {hs : List (List Int)} {p : Nat → Nat} (hF : FormL n hs p) {zs : List Int} (hz : zs.length = n) : ∀ k, k ≤ hs.length → ∀ b, b < n → (leftL hs p zs k).getD b 0 = leftN (fun k b => (hs.getD k []).getD b 0) p (fun b => zs.getD b 0) k b
  | 0, _, _, _ => rfl
  | k + 1, hk, b, hb => by
    have h1 := leftL_len hF hz k (by omega)
    have h2 := hF.len _ (getD_mem (show k < hs.length by omega))
    have h3 := leftL_get hF hz k (by omega)
    have h4 := hF.form.lt k (by omega)
    have e : leftN (fun k b => (hs.getD k []).getD b 0) p (fun b => zs.getD b 0) (k + 1) b = leftN (fun k b => (hs.getD k []).getD b 0) p (fun b => zs.getD b 0) k b - leftN (fun k b => (hs.getD k []).getD b 0) p (fun b => zs.getD b 0) k (p k) / (hs.getD k []).getD (p k) 0 * (hs.getD k []).getD b 0 := rfl
    have el : leftL hs p zs (k + 1) = List.zipWith (fun x y => x - y) (leftL hs p zs k) ((hs.getD k []).map (oftL hs p (leftL hs p zs k) k * ·)) := rfl
    rw [e, ← h3 b hb, ← h3 (p k) h4, el]
    rw [zip_getD _ _ _ (by rw [List.length_map, h1, h2]) b (by omega), map_getD' _ _ _ (by omega)]
    rfl

theorem first_neg : ∀ (zs : List Int), first zs < 0 ↔ ∀ b, b < zs.length → zs.getD b 0 = 0
  | [] => ⟨fun _ b hb => absurd hb (by simp), fun _ => by decide⟩
  | z :: zs => by
    have ih := first_neg zs
    have hge := first_ge zs
    rw [first]
    by_cases h : z = 0
    · rw [if_pos h]
      constructor
      · intro h1 b hb
        have h2 : first zs < 0 := by
          by_cases h3 : first zs < 0
          · exact h3
          · rw [if_neg h3] at h1; omega
        cases b with
        | zero => simpa using h
        | succ b => simpa using ih.1 h2 b (by simpa using hb)
      · intro h1
        have h2 : first zs < 0 := ih.2 fun b hb => by simpa using h1 (b + 1) (by simpa using hb)
        rw [if_pos h2]; decide
    · rw [if_neg h]
      exact ⟨fun h1 => absurd h1 (by decide), fun h1 => absurd (by simpa using h1 0 (by simp)) h⟩

/-- A vector lies there just if each row takes off what is in its place, and nothing is left. -/
theorem share_iff {n : Nat} {hs : List (List Int)} {p : Nat → Nat} (hF : FormL n hs p) {zs : List Int} (hz : zs.length = n) : Lat hs.length n (fun k b => (hs.getD k []).getD b 0) (fun b => zs.getD b 0) ↔ (∀ k, k < hs.length → (leftL hs p zs k).getD (p k) 0 % (hs.getD k []).getD (p k) 0 = 0) ∧ first (leftL hs p zs hs.length) < 0 := by
  rw [lat_iff hF.form, first_neg]
  have hl := leftL_len hF hz hs.length (Nat.le_refl _)
  constructor
  · rintro ⟨h1, h2⟩
    exact ⟨fun k hk => by rw [leftL_get hF hz k (by omega) _ (hF.form.lt k hk)]; exact h1 k hk, fun b hb => by rw [leftL_get hF hz _ (Nat.le_refl _) b (by omega)]; exact h2 b (by omega)⟩
  · rintro ⟨h1, h2⟩
    exact ⟨fun k hk => by rw [← leftL_get hF hz k (by omega) _ (hF.form.lt k hk)]; exact h1 k hk, fun b hb => by rw [← leftL_get hF hz _ (Nat.le_refl _) b hb]; exact h2 b (by omega)⟩

/-- What is so much of each row, is just so much. -/
theorem much_one {n : Nat} {hs : List (List Int)} {p : Nat → Nat} (hF : FormL n hs p) {zs ds : List Int} (hz : zs.length = n) (hd : ds.length = hs.length) (h : ∀ b, b < n → zs.getD b 0 = sumN hs.length (fun k => ds.getD k 0 * (hs.getD k []).getD b 0)) : muchL hs p zs = ds := by
  apply list_ext ((muchL_len hs p zs).trans hd.symm)
  intro k hk
  rw [muchL_len] at hk
  rw [muchL_getD hs p zs k hk, ← often_one hF.form (v := fun b => zs.getD b 0) (d := fun k => ds.getD k 0) h k hk]
  unfold oftL oftenN
  rw [leftL_get hF hz k (by omega) _ (hF.form.lt k hk)]

/-- And what lies there is so much of each row. -/
theorem much_sum {n : Nat} {hs : List (List Int)} {p : Nat → Nat} (hF : FormL n hs p) {zs : List Int} (hz : zs.length = n) (h : Lat hs.length n (fun k b => (hs.getD k []).getD b 0) (fun b => zs.getD b 0)) : ∀ b, b < n → zs.getD b 0 = sumN hs.length (fun k => (muchL hs p zs).getD k 0 * (hs.getD k []).getD b 0) := by
  intro b hb
  obtain ⟨d, hd⟩ := h
  have h1 := often_one hF.form hd
  refine (hd b hb).trans (sumN_congr fun k hk => ?_)
  rw [muchL_getD hs p zs k hk, ← h1 k hk]
  unfold oftL oftenN
  rw [leftL_get hF hz k (by omega) _ (hF.form.lt k hk)]

/-- A sum of multiples of rows is made of them. -/
theorem gens_of_lat {n : Nat} {hs : List (List Int)} (hl : ∀ r ∈ hs, r.length = n) {v : List Int} (hv : v.length = n) (h : Lat hs.length n (fun k b => (hs.getD k []).getD b 0) (fun b => v.getD b 0)) : Gens n (InL hs) v := by
  obtain ⟨c, hc⟩ := h
  have key : ∀ m, m ≤ hs.length → Gens n (InL hs) ((List.range n).map fun b => sumN m (fun k => c k * (hs.getD k []).getD b 0)) := by
    intro m
    induction m with
    | zero =>
      intro _
      have e : ((List.range n).map fun b => sumN 0 (fun k => c k * (hs.getD k []).getD b 0)) = List.replicate n 0 := by
        apply list_ext (by simp)
        intro k hk
        have hk' : k < n := by simpa using hk
        rw [range_getD _ _ k hk', List.getD_eq_getElem?_getD, List.getElem?_replicate, if_pos hk']
        rfl
      rw [e]
      exact .zero
    | succ m ih =>
      intro hm
      have g := ih (by omega)
      have hmm := getD_mem (show m < hs.length by omega)
      have hml := hl _ hmm
      have e : ((List.range n).map fun b => sumN (m + 1) (fun k => c k * (hs.getD k []).getD b 0)) = List.zipWith (fun a b => 1 * a + c m * b) ((List.range n).map fun b => sumN m (fun k => c k * (hs.getD k []).getD b 0)) (hs.getD m []) := by
        apply list_ext (by rw [zip_len _ _ _ (by rw [List.length_map, List.length_range, hml]), List.length_map, List.length_map])
        intro k hk
        have hk' : k < n := by simpa using hk
        rw [range_getD _ _ k hk', zip_getD _ _ _ (by rw [List.length_map, List.length_range, hml]) k (by simpa using hk'), range_getD _ _ k hk', Int.one_mul]
        rfl
      rw [e]
      exact .comb _ _ g (.base hmm hml)
  have e : v = ((List.range n).map fun b => sumN hs.length (fun k => c k * (hs.getD k []).getD b 0)) := by
    apply list_ext (by simp [hv])
    intro k hk
    rw [range_getD _ _ k (by omega)]
    exact hc k (by omega)
  rw [e]
  exact key _ (Nat.le_refl _)

/-- It lies there just if it is made of the rows. -/
theorem lat_gens {n : Nat} {hs : List (List Int)} (hl : ∀ r ∈ hs, r.length = n) {v : List Int} (hv : v.length = n) : Lat hs.length n (fun k b => (hs.getD k []).getD b 0) (fun b => v.getD b 0) ↔ Gens n (InL hs) v := ⟨gens_of_lat hl hv, lat_inL⟩

end Go.Proofs.YtdedolkgcdlmeaaGreatDoor
