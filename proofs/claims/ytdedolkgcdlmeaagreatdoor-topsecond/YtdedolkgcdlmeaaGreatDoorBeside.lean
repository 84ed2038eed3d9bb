/- Rows that are made one by one, in a list of one's own; rows twice as wide. -/
import Derived.Test.YtdedolkgcdlmeaaGreatDoorCopyV
import Derived.Test.YtdedolkgcdlmeaaGreatDoorMeetL
import Derived.Test.YtdedolkgcdlmeaaGreatDoorMats
namespace Go.Proofs.YtdedolkgcdlmeaaGreatDoor
open Go.RowKit Limbs

/-- A list of rows, while they are made. -/
structure RowsI (w W : World) (B : Nat) (m : Nat) (rows : List (List Int)) (k N : Nat) : Prop where
  low : Below w.heap.size w W
  high : w.heap.size ≤ B
  lt : B < W.heap.size
  blk : ∃ cs t, W.heap[B]? = some (.cells cs t)
  nil : ∀ i, k ≤ i → i < m → W.cell? ⟨B, i, none⟩ = some (.slice none 0 0)
  row : ∀ i, i < k → ∃ Q, W.cell? ⟨B, i, none⟩ = some (.slice (some ⟨Q, 0, none⟩) (rows.getD i []).length (rows.getD i []).length) ∧ VecN W (.slice (some ⟨Q, 0, none⟩) (rows.getD i []).length (rows.getD i []).length) (rows.getD i []) N ∧ Q < W.heap.size ∧ Q ≠ B

theorem one_made (m i : Nat) (hi : i < m) : (madeCells #[.slice none 0 0] m)[i]? = some (.slice none 0 0) := by
  simp [madeCells, hi, Nat.mod_one]

theorem RowsI.start {w W0 : World} (hb : Below w.heap.size w W0) (m : Nat) (rows : List (List Int)) (N : Nat) : RowsI w (W0.alloc (.cells (madeCells #[.slice none 0 0] m) 72)) W0.heap.size m rows 0 N := by
  refine ⟨hb.alloc hb.size _, hb.size, by simp, ⟨_, _, heap_alloc_new W0 _⟩, fun i _ hi => ?_, fun i hi => absurd hi (by omega)⟩
  rw [World.cell?_alloc_new]
  exact one_made m i hi

theorem RowsI.later {w W W' : World} {B m : Nat} {rows : List (List Int)} {k N : Nat} (h : RowsI w W B m rows k N) (hb : Below W.heap.size W W') : RowsI w W' B m rows k N where
  low := h.low.trans (hb.mono h.low.size)
  high := h.high
  lt := Nat.lt_of_lt_of_le h.lt hb.size
  blk := by obtain ⟨cs, t, e⟩ := h.blk; exact ⟨cs, t, (hb.block _ (heap_lt e)).trans e⟩
  nil := fun i h1 h2 => (hb.cell (p := ⟨B, i, none⟩) h.lt).trans (h.nil i h1 h2)
  row := fun i hi => by
    obtain ⟨Q, e, hv, hq, hne⟩ := h.row i hi
    exact ⟨Q, (hb.cell (p := ⟨B, i, none⟩) h.lt).trans e, hv.below hb (Nat.le_refl _), Nat.lt_of_lt_of_le hq hb.size, hne⟩

theorem RowsI.thaw {w W : World} {B m : Nat} {rows : List (List Int)} {k N : Nat} (h : RowsI w W B m rows k N) (i : Nat) : W.frozen? ⟨B, i, none⟩ = false := by
  obtain ⟨cs, t, e⟩ := h.blk
  simp [World.frozen?, e]

/-- The next row is made, and put there; then it is written. -/
theorem RowsI.step {w W W' : World} {B m : Nat} {rows : List (List Int)} {k N : Nat} (h : RowsI w W B m rows k N) (hk : k < m) (hb : Below W.heap.size (W.setCell ⟨B, k, none⟩ (.slice (some ⟨W.heap.size, 0, none⟩) (rows.getD k []).length (rows.getD k []).length)) W')
    (hlt : W.heap.size < W'.heap.size) (hv : VecN W' (.slice (some ⟨W.heap.size, 0, none⟩) (rows.getD k []).length (rows.getD k []).length) (rows.getD k []) N) : RowsI w W' B m rows (k + 1) N := by
  have hnil := h.nil k (Nat.le_refl _) hk
  have hu : ∀ z, (Value.slice none 0 0) ≠ .int .u32 z := fun z e => by cases e
  have hlb := h.lt
  refine ⟨(h.low.setCell (p := ⟨B, k, none⟩) h.high _).trans (hb.mono h.low.size), h.high, by omega, ?_, fun i h1 h2 => ?_, fun i hi => ?_⟩
  · obtain ⟨cs, t, e⟩ := h.blk
    exact ⟨_, t, (hb.block B hlb).trans (heap_setCell_same W B k _ _ _ e)⟩
  · exact (hb.cell (p := ⟨B, i, none⟩) hlb).trans ((World.cell?_setCell_other (h := fun e => by simp at e <;> omega) ..).trans (h.nil i (by omega) h2))
  · by_cases e : i = k
    · subst e
      exact ⟨_, (hb.cell (p := ⟨B, i, none⟩) hlb).trans (World.cell?_setCell_same (h := hnil) ..), hv, hlt, by omega⟩
    · obtain ⟨Q', e', hv', hq', hne'⟩ := h.row i (by omega)
      have hv2 := hv'.other (x := .slice (some ⟨W.heap.size, 0, none⟩) (rows.getD k []).length (rows.getD k []).length) hne' hnil hu
      exact ⟨Q', (hb.cell (p := ⟨B, i, none⟩) hlb).trans ((World.cell?_setCell_other (h := fun e => by simp at e <;> omega) ..).trans e'), hv2.below hb (by simp), by omega, hne'⟩

/-- The same, with the row and its length given. -/
theorem RowsI.step_at {w W W' : World} {B m : Nat} {rows : List (List Int)} {k N L : Nat} {r : List Int} (h : RowsI w W B m rows k N) (hk : k < m) (hr : rows.getD k [] = r) (hL : r.length = L) (hb : Below W.heap.size (W.setCell ⟨B, k, none⟩ (.slice (some ⟨W.heap.size, 0, none⟩) L L)) W')
    (hlt : W.heap.size < W'.heap.size) (hv : VecN W' (.slice (some ⟨W.heap.size, 0, none⟩) r.length r.length) r N) : RowsI w W' B m rows (k + 1) N := by
  subst hL hr
  exact h.step hk hb hlt hv

theorem RowsI.mat {w W : World} {B m : Nat} {rows : List (List Int)} {N : Nat} (h : RowsI w W B m rows m N) (hm : rows.length = m) : MatN W (.slice (some ⟨B, 0, none⟩) m m) rows N := by
  subst hm
  refine ⟨_, _, rfl, Nat.le_refl _, fun h0 => ⟨_, _, rfl, h.lt, fun i zs hi => ?_⟩⟩
  obtain ⟨hi', e⟩ := List.getElem?_eq_some_iff.1 hi
  obtain ⟨Q, e1, hv, -, -⟩ := h.row i hi'
  rw [getD_row hi', e] at e1 hv
  exact ⟨_, by rw [Nat.zero_add]; exact e1, hv⟩

/-- A block is made, then a cell below it is written: as if that had been written first. -/
theorem made_then (W : World) (ob : Obj) (B k : Nat) (hB : B < W.heap.size) (x : Value) : Below W.heap.size (W.setCell ⟨B, k, none⟩ x) ((W.alloc ob).setCell ⟨B, k, none⟩ x) := by
  have hb := (Below.refl W.heap.size W).alloc (Nat.le_refl _) ob
  refine ⟨rfl, rfl, rfl, by simp, fun j hj => ?_⟩
  have e := hb.block j hj
  by_cases hjB : j = B
  · subst hjB
    unfold World.setCell
    simp only [Array.getElem?_modify]
    simp [e]
  · rw [heap_setCell_other _ ⟨B, k, none⟩ j x (fun h => hjB h), heap_setCell_other _ ⟨B, k, none⟩ j x (fun h => hjB h)]
    exact e

theorem matN_nils (W : World) (m N : Nat) : MatN (W.alloc (.cells (madeCells #[.slice none 0 0] m) 72)) (.slice (some ⟨W.heap.size, 0, none⟩) m m) (List.replicate m []) N := by
  refine ⟨_, m, by rw [List.length_replicate], by rw [List.length_replicate]; exact Nat.le_refl _, fun _ => ⟨_, _, rfl, by simp, fun i zs hi => ?_⟩⟩
  have hi' := (List.getElem?_eq_some_iff.1 hi).1
  rw [List.length_replicate] at hi'
  have : zs = [] := by rw [List.getElem?_replicate, if_pos hi'] at hi; exact (Option.some.inj hi).symm
  subst this
  refine ⟨.slice none 0 0, ?_, ⟨none, 0, rfl, Nat.le_refl _, fun h => absurd h (by simp)⟩⟩
  rw [Nat.zero_add, World.cell?_alloc_new]
  exact one_made m i hi'

/-- Each row, and behind it what stands there among the others, with noughts up to its end. -/
def besL (n : Nat) (hs os : List (List Int)) : List (List Int) := List.zipWith (fun r o => r ++ (o ++ List.replicate (n - o.length) 0)) hs os

theorem besL_len (n : Nat) (hs os : List (List Int)) (h : os.length = hs.length) : (besL n hs os).length = hs.length := by
  unfold besL
  rw [List.length_zipWith]; omega

theorem besL_at (n : Nat) (hs os : List (List Int)) (k : Nat) (h1 : k < hs.length) (h2 : k < os.length) : (besL n hs os).getD k [] = hs[k] ++ (os[k] ++ List.replicate (n - os[k].length) 0) := by
  unfold besL
  rw [List.getD_eq_getElem?_getD, List.getElem?_zipWith, List.getElem?_eq_getElem h1, List.getElem?_eq_getElem h2]
  rfl

theorem besL_row {n : Nat} {hs os : List (List Int)} (hl : ∀ r ∈ hs, r.length = n) (ho : ∀ r ∈ os, r.length ≤ n) : ∀ r ∈ besL n hs os, r.length = n + n := fun r hr => by
  obtain ⟨k, hk, rfl⟩ := List.getElem_of_mem hr
  unfold besL at hk ⊢
  rw [List.length_zipWith] at hk
  rw [List.getElem_zipWith]
  have e1 := hl hs[k] (List.getElem_mem (by omega))
  have e2 := ho os[k] (List.getElem_mem (by omega))
  rw [List.length_append, List.length_append, List.length_replicate]
  omega

theorem besL_same {n : Nat} {hs : List (List Int)} (hl : ∀ r ∈ hs, r.length = n) : besL n hs hs = hs.map fun r => r ++ r := by
  induction hs with
  | nil => rfl
  | cons r hs ih =>
    have e := hl r (by simp)
    have := ih (fun x hx => hl x (by simp [hx]))
    unfold besL at this ⊢
    rw [List.zipWith_cons_cons, this, List.map_cons, e, Nat.sub_self]
    simp

theorem besL_nils (n : Nat) (ks : List (List Int)) : besL n ks (List.replicate ks.length []) = ks.map fun r => r ++ List.replicate n 0 := by
  induction ks with
  | nil => rfl
  | cons r ks ih =>
    unfold besL at ih ⊢
    rw [List.length_cons, List.replicate_succ, List.zipWith_cons_cons, ih, List.map_cons]
    simp

theorem besL_wide {n : Nat} {hs ks : List (List Int)} (hl : ∀ r ∈ hs, r.length = n) : besL n hs hs ++ besL n ks (List.replicate ks.length []) = wideL n hs ks := by
  rw [besL_same hl, besL_nils]; rfl

theorem splice_first {n : Nat} {r : List Int} (hr : r.length = n) : splice (List.replicate (2 * n) 0) 0 r = r ++ List.replicate n 0 := by
  unfold splice
  rw [List.take_zero, List.nil_append, List.drop_replicate, hr]
  congr 2; omega

theorem splice_second {n : Nat} {r o : List Int} (hr : r.length = n) (ho : o.length ≤ n) : splice (r ++ List.replicate n 0) n o = r ++ (o ++ List.replicate (n - o.length) 0) := by
  unfold splice
  rw [List.take_left' hr]
  have e : (r ++ List.replicate n (0 : Int)).drop (n + o.length) = List.replicate (n - o.length) 0 := by
    rw [List.drop_append, hr, List.drop_of_length_le (by omega), List.nil_append, List.drop_replicate]
    congr 1; omega
  rw [e]

end Go.Proofs.YtdedolkgcdlmeaaGreatDoor
