/- copy: numbers of a vector go over into a vector of one's own. -/
import Derived.Test.YtofegldopgkikaaGreatDoorTidy
import Derived.Test.YtofegldopgkikaaGreatDoorGcdA
import Derived.Laws.CopyOwn
import Derived.Test.YtofegldopgkikaaGreatDoorRefForm
import Derived.Test.YtofegldopgkikaaGreatDoorText
import Derived.Test.YtofegldopgkikaaGreatDoorRefH

namespace Go.Proofs.YtofegldopgkikaaGreatDoor
open Go.RowKit Limbs

/-- The two cells of a number. -/
def pcells (p : Nm × Int) : List Value := [.bool p.1.neg, .slice p.1.o p.1.l p.1.c]

theorem splice_set (zs us : List Int) (k : Nat) (u : Int) (hk : k < zs.length) : splice (zs.set k u) (k + 1) us = splice zs k (u :: us) := by
  unfold splice
  have hk' : k < (zs.set k u).length := by rw [List.length_set]; exact hk
  rw [List.take_succ_eq_append_getElem hk', List.getElem_set_self, List.take_set_of_le (Nat.le_refl _), List.drop_set_of_lt (by omega), List.length_cons, show k + 1 + us.length = k + (us.length + 1) by omega, List.append_assoc]
  rfl

theorem NumL.laid {w W : World} {P : Nat} {zs : List Int} {n : Nat} (h : VecO w W P zs n) {k : Nat} (hk : k < zs.length) (neg : Bool) (o : Option Addr) (l c : Nat) {v : Value} {y : Int} {m : Nat} (hv : NumL W v y m) :
    NumL ((W.setCell ⟨P, k * 2, none⟩ (.bool neg)).setCell ⟨P, k * 2 + 1, none⟩ (.slice o l c)) v y m := by
  obtain ⟨neg0, o0, l0, c0, k0, k1, -⟩ := h.at k hk
  have k1' : (W.setCell ⟨P, k * 2, none⟩ (.bool neg)).cell? ⟨P, k * 2 + 1, none⟩ = some (.slice o0 l0 c0) := (World.cell?_setCell_other (h := fun e => by simp at e) ..).trans k1
  exact (hv.setCell k0 (fun z e => by cases e)).setCell k1' (fun z e => by cases e)

/-- Numbers are laid over a part of the vector. -/
theorem VecO.lay {w : World} {P n : Nat} : ∀ (ps : List (Nm × Int)) (k : Nat) (W : World) (zs : List Int), VecO w W P zs n → k + ps.length ≤ zs.length → (∀ p ∈ ps, NumL W (.agg #[.bool p.1.neg, .slice p.1.o p.1.l p.1.c]) p.2 n) → VecO w (W.setCells P (k * 2) (ps.flatMap pcells)) P (splice zs k (ps.map (·.2))) n
  | [], k, W, zs, h, _, _ => by simpa [splice, World.setCells] using h
  | p :: ps, k, W, zs, h, hk, hn => by
    rw [List.length_cons] at hk
    have hset := h.set (k := k) (by omega) (hn p (by simp))
    have hrest := VecO.lay ps (k + 1) _ _ hset (by rw [List.length_set]; omega) (fun q hq => NumL.laid h (by omega) _ _ _ _ (hn q (by simp [hq])))
    rw [splice_set _ _ _ _ (by omega), show (k + 1) * 2 = k * 2 + 1 + 1 by omega] at hrest
    exact hrest

end Go.Proofs.YtofegldopgkikaaGreatDoor

/- How much of each row in the one form a vector is. -/
namespace Go.Proofs.YtofegldopgkikaaGreatDoor
open Go.RowKit Limbs

/-- What is left once rows are taken off, one by one. -/
def leftN (H : Nat → Nat → Int) (p : Nat → Nat) (v : Nat → Int) : Nat → Nat → Int
  | 0 => v
  | i + 1 => fun b => leftN H p v i b - leftN H p v i (p i) / H i (p i) * H i b

/-- How often a row is taken off. -/
def oftenN (H : Nat → Nat → Int) (p : Nat → Nat) (v : Nat → Int) (i : Nat) : Int := leftN H p v i (p i) / H i (p i)

end Go.Proofs.YtofegldopgkikaaGreatDoor

/- Of rows in the one form: where their first numbers lie. -/
namespace Go.Proofs.YtofegldopgkikaaGreatDoor
open Go.RowKit Limbs

theorem first_eq : ∀ (zs : List Int) (k : Nat), k < zs.length → (∀ j, j < k → zs.getD j 0 = 0) → zs.getD k 0 ≠ 0 → first zs = k
  | [], k, hk, _, _ => absurd hk (by simp)
  | z :: zs, 0, _, _, hne => by
    have : z ≠ 0 := by simpa using hne
    rw [first, if_neg this]; rfl
  | z :: zs, k + 1, hk, h0, hne => by
    have e : z = 0 := by simpa using h0 0 (by omega)
    have ih := first_eq zs k (by simpa using hk) (fun j hj => by simpa using h0 (j + 1) (by omega)) (by simpa using hne)
    rw [first, if_pos e, ih, if_neg (by omega)]
    omega

theorem FormL.first {n : Nat} {hs : List (List Int)} {p : Nat → Nat} (h : FormL n hs p) {k : Nat} (hk : k < hs.length) : first hs[k] = p k ∧ p k < n ∧ 0 < hs[k].getD (p k) 0 := by
  have hlen := h.len _ (List.getElem_mem hk)
  have h1 := h.form.lt k hk
  have h2 := h.form.pos k hk
  have h3 := h.form.zero k
  simp only [getD_row hk] at h2 h3
  exact ⟨first_eq _ _ (by omega) (fun j hj => h3 j hk hj) (by omega), h1, h2⟩

theorem FormL.red {n : Nat} {hs : List (List Int)} {p : Nat → Nat} (h : FormL n hs p) {i k : Nat} (hik : i < k) (hk : k < hs.length) : 0 ≤ (hs[i]'(by omega)).getD (p k) 0 ∧ (hs[i]'(by omega)).getD (p k) 0 < hs[k].getD (p k) 0 := by
  have := h.form.red i k hik hk
  simpa only [getD_row hk, getD_row (show i < hs.length by omega)] using this

/-- The pivot's place of the row ahead. -/
def lastP (p : Nat → Nat) (k : Nat) : Int := if k = 0 then -1 else (p (k - 1) : Int)

theorem FormL.last {n : Nat} {hs : List (List Int)} {p : Nat → Nat} (h : FormL n hs p) {k : Nat} (hk : k < hs.length) : lastP p k < (p k : Int) := by
  unfold lastP
  split
  · omega
  · have := h.form.inc (k - 1) k (by omega) hk
    omega

end Go.Proofs.YtofegldopgkikaaGreatDoor

/- How much of each row in the one form a vector is: lists. -/
namespace Go.Proofs.YtofegldopgkikaaGreatDoor
open Go.RowKit Limbs

/-- The row's share of what is left. -/
def oftL (hs : List (List Int)) (p : Nat → Nat) (xs : List Int) (k : Nat) : Int := xs.getD (p k) 0 / (hs.getD k []).getD (p k) 0

/-- What is left once rows are taken off. -/
def leftL (hs : List (List Int)) (p : Nat → Nat) (zs : List Int) : Nat → List Int
  | 0 => zs
  | k + 1 => List.zipWith (fun x y => x - y) (leftL hs p zs k) ((hs.getD k []).map (oftL hs p (leftL hs p zs k) k * ·))

/-- How much of each row. -/
def muchL (hs : List (List Int)) (p : Nat → Nat) (zs : List Int) : List Int := (List.range hs.length).map fun k => oftL hs p (leftL hs p zs k) k

theorem range_getD (m : Nat) (f : Nat → Int) (k : Nat) (hk : k < m) : ((List.range m).map f).getD k 0 = f k := by
  rw [List.getD_eq_getElem?_getD, List.getElem?_map, List.getElem?_range hk]
  rfl

/-- A sum of multiples of rows is made of them. -/
theorem gens_of_lat {n : Nat} {hs : List (List Int)} (hl : ∀ r ∈ hs, r.length = n) {v : List Int} (hv : v.length = n) (h : Lat hs.length n (fun k b => (hs.getD k []).getD b 0) (fun b => v.getD b 0)) : Gens n (InL hs) v := by
  obtain ⟨c, hc⟩ := h
  have key : ∀ m, m ≤ hs.length → Gens n (InL hs) ((List.range n).map fun b => sumN m (fun k => c k * (hs.getD k []).getD b 0)) := by
    intro m
    induction m with
    | zero =>
      intro _
      have e : ((List.range n).map fun b => sumN 0 (fun k => c k * (hs.getD k []).getD b 0)) = List.replicate n 0 := by
        apply list_ext (by simp)
        intro k hk
        have hk' : k < n := by simpa using hk
        rw [range_getD _ _ k hk', List.getD_eq_getElem?_getD, List.getElem?_replicate, if_pos hk']
        rfl
      rw [e]
      exact .zero
    | succ m ih =>
      intro hm
      have g := ih (by omega)
      have hmm := getD_mem (show m < hs.length by omega)
      have hml := hl _ hmm
      have e : ((List.range n).map fun b => sumN (m + 1) (fun k => c k * (hs.getD k []).getD b 0)) = List.zipWith (fun a b => 1 * a + c m * b) ((List.range n).map fun b => sumN m (fun k => c k * (hs.getD k []).getD b 0)) (hs.getD m []) := by
        apply list_ext (by rw [zip_len _ _ _ (by rw [List.length_map, List.length_range, hml]), List.length_map, List.length_map])
        intro k hk
        have hk' : k < n := by simpa using hk
        rw [range_getD _ _ k hk', zip_getD _ _ _ (by rw [List.length_map, List.length_range, hml]) k (by simpa using hk'), range_getD _ _ k hk', Int.one_mul]
        rfl
      rw [e]
      exact .comb _ _ g (.base hmm hml)
  have e : v = ((List.range n).map fun b => sumN hs.length (fun k => c k * (hs.getD k []).getD b 0)) := by
    apply list_ext (by simp [hv])
    intro k hk
    rw [range_getD _ _ k (by omega)]
    exact hc k (by omega)
  rw [e]
  exact key _ (Nat.le_refl _)

end Go.Proofs.YtofegldopgkikaaGreatDoor

/- The sum of two lattices: what generates it. -/
namespace Go.Proofs.YtofegldopgkikaaGreatDoor
open Go.RowKit Limbs

end Go.Proofs.YtofegldopgkikaaGreatDoor
