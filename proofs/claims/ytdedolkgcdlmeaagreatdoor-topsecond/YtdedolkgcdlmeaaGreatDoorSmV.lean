/- Rows whose pivots are alone; what is left of rows that are turned about. No Go in it. -/
import Derived.Test.YtdedolkgcdlmeaaGreatDoorSmU
import Derived.Test.YtdedolkgcdlmeaaGreatDoorSmA
namespace Go.Proofs.YtdedolkgcdlmeaaGreatDoor
open Go.RowKit Limbs

/-- As many rows as places, that make what the places of the rows make. -/
structure TurnF (n : Nat) (hs fs : List (List Int)) : Prop where
  len : fs.length = hs.length
  lens : ∀ u ∈ fs, u.length = hs.length
  free : FreeM hs.length (ent fs)
  alike : Alikes hs.length (InL fs) (InL (colsL hs n))

/-- Each place by itself, as rows. -/
def dgL (r : Nat) (f : Nat → Int) : List (List Int) := (List.range r).map fun i => (List.range r).map fun j => dgM f i j

theorem dgL_length (r : Nat) (f : Nat → Int) : (dgL r f).length = r := by simp [dgL]

theorem dgL_len (r : Nat) (f : Nat → Int) : ∀ u ∈ dgL r f, u.length = r := fun u hu => by
  obtain ⟨i, -, rfl⟩ := List.mem_map.1 hu
  simp

theorem dgL_get (r : Nat) (f : Nat → Int) (i : Nat) (hi : i < r) : (dgL r f).getD i [] = (List.range r).map fun j => dgM f i j := by
  rw [getD_row (by rw [dgL_length]; exact hi)]
  simp [dgL]

theorem dgL_ent (r : Nat) (f : Nat → Int) : EqM r (ent (dgL r f)) (dgM f) := fun i j hi hj => by
  show ((dgL r f).getD i []).getD j 0 = _
  rw [dgL_get r f i hi, range_getD _ _ j hj]

theorem alone_turn {n : Nat} {hs : List (List Int)} {p : Nat → Nat} (F : FormL n hs p) (h : aloneTo hs p n hs.length) : ∃ gs, TurnF n hs gs ∧ Equ hs.length (ent gs) (dgM fun i => (pivL hs p).getD i 0) := by
  have h0 : ∀ i b, i < hs.length → b < n → b ≠ p i → ent hs i b = 0 := fun i b hi hb hne => by
    rcases Nat.lt_or_gt_of_ne hne with hl | hl
    · exact F.form.zero i b hi hl
    · exact h i hi b hl hb
  have hcol : ∀ i, i < hs.length → (colsL hs n).getD (p i) [] = (dgL hs.length (fun k => ent hs k (p k))).getD i [] := fun i hi => by
    have hp := F.form.lt i hi
    rw [colsL_get hs n _ hp, dgL_get _ _ i hi]
    refine list_ext (by simp) fun k hk => ?_
    rw [List.length_map] at hk
    rw [map_getD0 _ _ _ hk, range_getD _ _ k hk]
    show ent hs k (p i) = dgM (fun k => ent hs k (p k)) i k
    unfold dgM
    by_cases e : i = k
    · rw [if_pos e, e]
    · rw [if_neg e]
      refine h0 k (p i) hk hp fun e2 => e ?_
      rcases Nat.lt_trichotomy i k with hlt | hlt | hlt
      · have := F.form.inc i k hlt hk; omega
      · exact hlt
      · have := F.form.inc k i hlt hi; omega
  refine ⟨dgL hs.length (fun k => ent hs k (p k)), ⟨dgL_length _ _, dgL_len _ _, ?_, ?_⟩, .of ((dgL_ent _ _).trans fun i j hi hj => ?_)⟩
  · refine free_up (fun i j hi hj hji => ?_) fun i hi => ?_
    · rw [dgL_ent _ _ i j hi hj, dgM, if_neg (by omega)]
    · rw [dgL_ent _ _ i i hi hi, dgM, if_pos rfl]
      have : 0 < ent hs i (p i) := F.form.pos i hi
      omega
  · refine Alikes.of (fun v hv hl => ?_) fun v hv hl => ?_
    · obtain ⟨i, hi, e⟩ := List.getElem_of_mem hv
      have hi' : i < hs.length := by rw [dgL_length] at hi; exact hi
      have hm : (colsL hs n).getD (p i) [] ∈ colsL hs n := getD_mem (by rw [colsL_length]; exact F.form.lt i hi')
      rw [hcol i hi', getD_row hi, e] at hm
      exact .base hm hl
    · obtain ⟨j, hj, e⟩ := List.getElem_of_mem hv
      have hj' : j < n := by rw [colsL_length] at hj; exact hj
      by_cases hp : ∃ i, i < hs.length ∧ j = p i
      · obtain ⟨i, hi, rfl⟩ := hp
        have hm : (dgL hs.length (fun k => ent hs k (p k))).getD i [] ∈ dgL hs.length (fun k => ent hs k (p k)) := getD_mem (by rw [dgL_length]; exact hi)
        rw [← hcol i hi, getD_row hj, e] at hm
        exact .base hm hl
      · have e2 : v = List.replicate hs.length 0 := by
          rw [← e, ← getD_row hj, colsL_get hs n j hj']
          refine list_ext (by simp) fun k hk => ?_
          rw [List.length_map] at hk
          rw [map_getD0 _ _ _ hk]
          have := h0 k j hk hj' fun e3 => hp ⟨k, hk, e3⟩
          unfold ent at this
          rw [this]
          simp [List.getD_eq_getElem?_getD, hk]
        rw [e2]
        exact .zero
  · unfold dgM
    split
    · exact (pivL_get hs p i hi).symm
    · rfl

theorem equ_done {r : Nat} {H : List (List Int)} {A : Nat → Nat → Int} (S : Sq r H) (al : ∀ k, k < r → ∀ b, k < b → b < r → ent H k b = 0) (h : Equ r A (ent H) ∨ Equ r (trM A) (ent H)) : Equ r A (dgM fun i => (pivL H fun k => k).getD i 0) := by
  have e : EqM r (ent H) (dgM fun i => (pivL H fun k => k).getD i 0) := fun i j hi hj => by
    unfold dgM
    by_cases hij : i = j
    · rw [if_pos hij]
      refine Eq.trans ?_ (pivL_get H _ i (by rw [S.len]; exact hi)).symm
      rw [hij]
    · rw [if_neg hij]
      rcases Nat.lt_or_gt_of_ne hij with hl | hl
      · exact al i hi j hl hj
      · exact S.low hi hl
  rcases h with h | h
  · exact h.trans (.of e)
  · have := (h.trans (.of e)).tr
    rw [trM_dg] at this
    exact this

theorem equ_turn {n : Nat} {hs H fs : List (List Int)} (S : Sq hs.length H) (S' : Sq hs.length fs) (a : Alikes hs.length (InL fs) (InL (colsL H hs.length))) (h : ∃ gs, TurnF n hs gs ∧ (Equ hs.length (ent gs) (ent H) ∨ Equ hs.length (trM (ent gs)) (ent H))) :
    ∃ gs, TurnF n hs gs ∧ (Equ hs.length (ent gs) (ent fs) ∨ Equ hs.length (trM (ent gs)) (ent fs)) := by
  obtain ⟨gs, hg, h⟩ := h
  refine ⟨gs, hg, ?_⟩
  rcases h with h | h
  · exact .inr (h.tr.trans (S.cols_equ S' a))
  · exact .inl (h.tr.trans (S.cols_equ S' a))

end Go.Proofs.YtdedolkgcdlmeaaGreatDoor
