/- Rows in the one form as a list; what they generate determines it; how great its numbers are. -/
import Derived.Test.YtdedolkgcdlmeaaGreatDoorForms
namespace Go.Proofs.YtdedolkgcdlmeaaGreatDoor
open Go.RowKit Limbs

def InL (hs : List (List Int)) : List Int → Prop := fun v => v ∈ hs

/-- A list of rows in the one form. -/
structure FormL (n : Nat) (hs : List (List Int)) (p : Nat → Nat) : Prop where
  len : ∀ r ∈ hs, r.length = n
  form : Form hs.length n (fun k b => (hs.getD k []).getD b 0) p

theorem getD_row {hs : List (List Int)} {k : Nat} (hk : k < hs.length) : hs.getD k [] = hs[k] := by
  rw [List.getD_eq_getElem?_getD, List.getElem?_eq_getElem hk, Option.getD_some]

theorem getD_mem {hs : List (List Int)} {k : Nat} (hk : k < hs.length) : hs.getD k [] ∈ hs := by
  rw [getD_row hk]; exact List.getElem_mem hk

theorem lat_inL {n : Nat} {hs : List (List Int)} {v : List Int} (h : Gens n (InL hs) v) : Lat hs.length n (fun k b => (hs.getD k []).getD b 0) (fun b => v.getD b 0) :=
  h.lat _ _ (fun v hv hl => by
    obtain ⟨k, hk, e⟩ := List.getElem_of_mem hv
    exact ⟨k, hk, fun b _ => by rw [getD_row hk, e]⟩)

theorem formL_one {n : Nat} {hs hs' : List (List Int)} {p p' : Nat → Nat} (h : FormL n hs p) (h' : FormL n hs' p') (ha : Alikes n (InL hs) (InL hs')) : hs = hs' := by
  obtain ⟨e, hr⟩ := form_one h.form h'.form (fun i hi => lat_inL ((ha _).1 (.base (getD_mem hi) (h.len _ (getD_mem hi))))) (fun i hi => lat_inL ((ha _).2 (.base (getD_mem hi) (h'.len _ (getD_mem hi)))))
  apply List.ext_getElem e
  intro k h1 h2
  have hl := h.len _ (List.getElem_mem h1)
  have hl' := h'.len _ (List.getElem_mem h2)
  apply list_ext (hl.trans hl'.symm)
  intro b hb
  have := (hr k h1).2 b (by omega)
  rwa [getD_row h1, getD_row h2] at this

/-- The rows of stairs, in their order. -/
def rowsL (T : Nat → Option (List Int)) (n : Nat) : List (List Int) := (List.range n).filterMap T

theorem rowsL_none {T : Nat → Option (List Int)} {n : Nat} (h : T n = none) : rowsL T (n + 1) = rowsL T n := by
  unfold rowsL
  rw [List.range_succ, List.filterMap_append]
  simp [h]

theorem rowsL_some {T : Nat → Option (List Int)} {n : Nat} {r : List Int} (h : T n = some r) : rowsL T (n + 1) = rowsL T n ++ [r] := by
  unfold rowsL
  rw [List.range_succ, List.filterMap_append]
  simp [h]

theorem rowsL_len (T : Nat → Option (List Int)) (n : Nat) : (rowsL T n).length ≤ n := by
  unfold rowsL
  have := List.length_filterMap_le T (List.range n)
  rwa [List.length_range] at this

theorem rowsL_mem {T : Nat → Option (List Int)} {len m : Nat} (hE : Ech T len m) (v : List Int) : v ∈ rowsL T m ↔ ∃ i, T i = some v := by
  unfold rowsL
  rw [List.mem_filterMap]
  exact ⟨fun ⟨i, _, e⟩ => ⟨i, e⟩, fun ⟨i, e⟩ => ⟨i, List.mem_range.2 (hE.lt i v e), e⟩⟩

theorem rowsL_places (T : Nat → Option (List Int)) (q : Nat) : ∃ p : Nat → Nat, (∀ k, k < (rowsL T q).length → p k < q ∧ T (p k) = some ((rowsL T q).getD k [])) ∧ ∀ i k, i < k → k < (rowsL T q).length → p i < p k := by
  induction q with
  | zero => exact ⟨fun _ => 0, fun k hk => absurd hk (by simp [rowsL]), fun i k _ hk => absurd hk (by simp [rowsL])⟩
  | succ q ih =>
    obtain ⟨p, h1, h2⟩ := ih
    cases e : T q with
    | none =>
      rw [rowsL_none e]
      exact ⟨p, fun k hk => ⟨Nat.lt_succ_of_lt (h1 k hk).1, (h1 k hk).2⟩, h2⟩
    | some r =>
      rw [rowsL_some e]
      refine ⟨fun k => if k = (rowsL T q).length then q else p k, fun k hk => ?_, fun i k hik hk => ?_⟩
      · rw [List.length_append, List.length_singleton] at hk
        dsimp only
        by_cases hkr : k = (rowsL T q).length
        · rw [if_pos hkr]
          refine ⟨Nat.lt_succ_self q, ?_⟩
          rw [e, hkr, List.getD_eq_getElem?_getD, List.getElem?_append_right (Nat.le_refl _), Nat.sub_self]
          rfl
        · rw [if_neg hkr]
          refine ⟨Nat.lt_succ_of_lt (h1 k (by omega)).1, ?_⟩
          rw [(h1 k (by omega)).2, List.getD_eq_getElem?_getD, List.getD_eq_getElem?_getD, List.getElem?_append_left (by omega)]
      · rw [List.length_append, List.length_singleton] at hk
        dsimp only
        rw [if_neg (show i ≠ (rowsL T q).length by omega)]
        by_cases hkr : k = (rowsL T q).length
        · rw [if_pos hkr]; exact (h1 i (by omega)).1
        · rw [if_neg hkr]; exact h2 i k hik (by omega)

/-- Tidied stairs: their rows are in the one form. -/
theorem tidy_formL {rows : Nat → Option (List Int)} {m : Nat} (hp : Pos rows) (h : Ech rows m m) : ∃ p, FormL m (rowsL (tidyN rows m m) m) p := by
  have hE := h.all (Nat.le_refl m) m
  obtain ⟨p, h1, h2⟩ := rowsL_places (tidyN rows m m) m
  refine ⟨p, ⟨fun r hr => ?_, ⟨h2, fun i hi => (h1 i hi).1, fun i b hi hb => ?_, fun i hi => ?_, fun i k hik hk => ?_⟩⟩⟩
  · obtain ⟨i, e⟩ := (rowsL_mem hE r).1 hr
    exact hE.len i r e
  · exact hE.zero _ _ (h1 i hi).2 b hb
  · exact hp.tidyN h (Nat.le_refl m) m _ _ (h1 i hi).2
  · exact tidy_small hp h (Nat.le_refl m) (h2 i k hik hk) (h1 i (by omega)).2 (h1 k hk).2

theorem alikes_rowsL {T : Nat → Option (List Int)} {len m : Nat} (hE : Ech T len m) : Alikes len (InL (rowsL T m)) (RowsOf T) :=
  .of (fun v hv hvl => .base ((rowsL_mem hE v).1 hv) hvl) (fun v hv hvl => .base ((rowsL_mem hE v).2 hv) hvl)

theorem alikes_or {n : Nat} {rows : Nat → Option (List Int)} {l : List (List Int)} {us : List Int} (h : Alikes n (RowsOf rows) (InL l)) : Alikes n (RowsOr rows us) (InL (l ++ [us])) := by
  refine .of (fun v hv hvl => ?_) (fun v hv hvl => ?_)
  · rcases hv with hv | rfl
    · exact ((h v).1 (.base hv hvl)).trans (fun x hx hxl => .base (List.mem_append_left _ hx) hxl)
    · exact .base (List.mem_append_right _ (List.mem_singleton.2 rfl)) hvl
  · rcases List.mem_append.1 hv with hv | hv
    · exact ((h v).2 (.base hv hvl)).trans (fun x hx hxl => .base (.inl hx) hxl)
    · rw [List.mem_singleton] at hv
      subst hv
      exact .base (.inr rfl) hvl

def fac : Nat → Nat
  | 0 => 1
  | n + 1 => (n + 1) * fac n

theorem facP_bp (n v : Nat) : facP n (bp v) = (fac n : Int) * bp (n * v) := by
  induction n with
  | zero => simp [facP, fac, bp]
  | succ n ih =>
    have e : (n + 1) * v = v + n * v := by rw [Nat.succ_mul, Nat.add_comm]
    rw [facP, ih, e, bp_add, fac, Int.natCast_mul]
    rw [Int.mul_assoc, ← Int.mul_assoc (bp v), Int.mul_comm (bp v), Int.mul_assoc]

theorem fac_small : ∀ r, r < 17 → r * fac r < 18446744073709551616 := by decide

theorem facP_lt {n v r : Nat} (hr : r ≤ n) (hn : n ≤ 16) : (r : Int) * facP r (bp v) < bp (n * v + 2) := by
  have h1 := fac_small r (by omega)
  have h2 : bp (r * v) ≤ bp (n * v) := bp_mono (Nat.mul_le_mul_right v hr)
  have h3 := bp_pos (r * v)
  have e : bp (n * v + 2) = 18446744073709551616 * bp (n * v) := by rw [Nat.add_comm, bp_add]; rfl
  rw [facP_bp, e, ← Int.mul_assoc]
  have h4 : ((r : Int) * (fac r : Int)) = ((r * fac r : Nat) : Int) := by rw [Int.natCast_mul]
  rw [h4]
  generalize r * fac r = q at *
  have h5 : (q : Int) * bp (r * v) ≤ 18446744073709551615 * bp (r * v) := Int.mul_le_mul_of_nonneg_right (by omega) (by omega)
  omega

end Go.Proofs.YtdedolkgcdlmeaaGreatDoor
