/- Rows turned about, put to each other, there twice: they generate the same. -/
import Derived.Test.YtofegldopgkikaaGreatDoorRefForm
import Derived.Test.YtofegldopgkikaaGreatDoorSumL
import Derived.Test.YtofegldopgkikaaGreatDoorMats

namespace Go.Proofs.YtofegldopgkikaaGreatDoor
open Go.RowKit Limbs

/-- The row before it is put to. -/
def sRow (ms : List (List Int)) (b x : Nat) : List Int := if x = b then ((ms.getD x []).map (1 * ·)).map (-1 * ·) else (ms.getD x []).map (1 * ·)

def tRow (ms : List (List Int)) (a b : Nat) (z : Int) (x : Nat) : List Int :=
  if x = a ∧ a ≠ b then List.zipWith (fun x y => x + y) (sRow ms b x) ((ms.getD b []).map (z * ·)) else sRow ms b x

def tList (ms : List (List Int)) (a b : Nat) (z : Int) : Nat → List (List Int)
  | 0 => []
  | d + 1 => tList ms a b z d ++ [tRow ms a b z (ms.length - 1 - d)]

end Go.Proofs.YtofegldopgkikaaGreatDoor

/- What two lattices have in common, by rows twice as wide. -/
namespace Go.Proofs.YtofegldopgkikaaGreatDoor
open Go.RowKit Limbs

/-- The rows twice as wide. -/
def wideL (n : Nat) (hs ks : List (List Int)) : List (List Int) := hs.map (fun r => r ++ r) ++ ks.map (fun r => r ++ List.replicate n 0)

theorem getD_left (u v : List Int) (j : Nat) (hj : j < u.length) : (u ++ v).getD j 0 = u.getD j 0 := by
  rw [List.getD_eq_getElem?_getD, List.getD_eq_getElem?_getD, List.getElem?_append_left hj]

theorem getD_right (u v : List Int) (j : Nat) : (u ++ v).getD (u.length + j) 0 = v.getD j 0 := by
  rw [List.getD_eq_getElem?_getD, List.getD_eq_getElem?_getD, List.getElem?_append_right (by omega), Nat.add_sub_cancel_left]

theorem getD_zeros (n j : Nat) : (List.replicate n (0 : Int)).getD j 0 = 0 := by
  rw [List.getD_eq_getElem?_getD, List.getElem?_replicate]
  split <;> rfl

theorem comb_app (x y : Int) (a b c d : List Int) (h : a.length = c.length) : List.zipWith (fun u v => x * u + y * v) (a ++ b) (c ++ d) = List.zipWith (fun u v => x * u + y * v) a c ++ List.zipWith (fun u v => x * u + y * v) b d := List.zipWith_append h

theorem comb_zeros (x y : Int) (n : Nat) : List.zipWith (fun u v => x * u + y * v) (List.replicate n (0 : Int)) (List.replicate n 0) = List.replicate n 0 := by
  apply list_ext (by simp)
  intro k hk
  have hk' : k < n := by simpa using hk
  rw [zip_getD _ _ _ (by simp) k (by simpa using hk'), getD_zeros]
  simp

end Go.Proofs.YtofegldopgkikaaGreatDoor

/- Rows that are made one by one, in a list of one's own; rows twice as wide. -/
namespace Go.Proofs.YtofegldopgkikaaGreatDoor
open Go.RowKit Limbs

/-- A list of rows, while they are made. -/
structure RowsI (w W : World) (B : Nat) (m : Nat) (rows : List (List Int)) (k N : Nat) : Prop where
  low : Below w.heap.size w W
  high : w.heap.size ≤ B
  lt : B < W.heap.size
  blk : ∃ cs t, W.heap[B]? = some (.cells cs t)
  nil : ∀ i, k ≤ i → i < m → W.cell? ⟨B, i, none⟩ = some (.slice none 0 0)
  row : ∀ i, i < k → ∃ Q, W.cell? ⟨B, i, none⟩ = some (.slice (some ⟨Q, 0, none⟩) (rows.getD i []).length (rows.getD i []).length) ∧ VecN W (.slice (some ⟨Q, 0, none⟩) (rows.getD i []).length (rows.getD i []).length) (rows.getD i []) N ∧ Q < W.heap.size ∧ Q ≠ B

theorem one_made (m i : Nat) (hi : i < m) : (madeCells #[.slice none 0 0] m)[i]? = some (.slice none 0 0) := by
  simp [madeCells, hi, Nat.mod_one]

theorem RowsI.start {w W0 : World} (hb : Below w.heap.size w W0) (m : Nat) (rows : List (List Int)) (N : Nat) : RowsI w (W0.alloc (.cells (madeCells #[.slice none 0 0] m) 39)) W0.heap.size m rows 0 N := by
  refine ⟨hb.alloc hb.size _, hb.size, by simp, ⟨_, _, heap_alloc_new W0 _⟩, fun i _ hi => ?_, fun i hi => absurd hi (by omega)⟩
  rw [World.cell?_alloc_new]
  exact one_made m i hi

theorem RowsI.later {w W W' : World} {B m : Nat} {rows : List (List Int)} {k N : Nat} (h : RowsI w W B m rows k N) (hb : Below W.heap.size W W') : RowsI w W' B m rows k N where
  low := h.low.trans (hb.mono h.low.size)
  high := h.high
  lt := Nat.lt_of_lt_of_le h.lt hb.size
  blk := by obtain ⟨cs, t, e⟩ := h.blk; exact ⟨cs, t, (hb.block _ (heap_lt e)).trans e⟩
  nil := fun i h1 h2 => (hb.cell (p := ⟨B, i, none⟩) h.lt).trans (h.nil i h1 h2)
  row := fun i hi => by
    obtain ⟨Q, e, hv, hq, hne⟩ := h.row i hi
    exact ⟨Q, (hb.cell (p := ⟨B, i, none⟩) h.lt).trans e, hv.below hb (Nat.le_refl _), Nat.lt_of_lt_of_le hq hb.size, hne⟩

theorem RowsI.thaw {w W : World} {B m : Nat} {rows : List (List Int)} {k N : Nat} (h : RowsI w W B m rows k N) (i : Nat) : W.frozen? ⟨B, i, none⟩ = false := by
  obtain ⟨cs, t, e⟩ := h.blk
  simp [World.frozen?, e]

/-- The next row is made, and put there; then it is written. -/
theorem RowsI.step {w W W' : World} {B m : Nat} {rows : List (List Int)} {k N : Nat} (h : RowsI w W B m rows k N) (hk : k < m) (hb : Below W.heap.size (W.setCell ⟨B, k, none⟩ (.slice (some ⟨W.heap.size, 0, none⟩) (rows.getD k []).length (rows.getD k []).length)) W')
    (hlt : W.heap.size < W'.heap.size) (hv : VecN W' (.slice (some ⟨W.heap.size, 0, none⟩) (rows.getD k []).length (rows.getD k []).length) (rows.getD k []) N) : RowsI w W' B m rows (k + 1) N := by
  have hnil := h.nil k (Nat.le_refl _) hk
  have hu : ∀ z, (Value.slice none 0 0) ≠ .int .u32 z := fun z e => by cases e
  have hlb := h.lt
  refine ⟨(h.low.setCell (p := ⟨B, k, none⟩) h.high _).trans (hb.mono h.low.size), h.high, by omega, ?_, fun i h1 h2 => ?_, fun i hi => ?_⟩
  · obtain ⟨cs, t, e⟩ := h.blk
    exact ⟨_, t, (hb.block B hlb).trans (heap_setCell_same W B k _ _ _ e)⟩
  · exact (hb.cell (p := ⟨B, i, none⟩) hlb).trans ((World.cell?_setCell_other (h := fun e => by simp at e <;> omega) ..).trans (h.nil i (by omega) h2))
  · by_cases e : i = k
    · subst e
      exact ⟨_, (hb.cell (p := ⟨B, i, none⟩) hlb).trans (World.cell?_setCell_same (h := hnil) ..), hv, hlt, by omega⟩
    · obtain ⟨Q', e', hv', hq', hne'⟩ := h.row i (by omega)
      have hv2 := hv'.other (x := .slice (some ⟨W.heap.size, 0, none⟩) (rows.getD k []).length (rows.getD k []).length) hne' hnil hu
      exact ⟨Q', (hb.cell (p := ⟨B, i, none⟩) hlb).trans ((World.cell?_setCell_other (h := fun e => by simp at e <;> omega) ..).trans e'), hv2.below hb (by simp), by omega, hne'⟩

theorem RowsI.mat {w W : World} {B m : Nat} {rows : List (List Int)} {N : Nat} (h : RowsI w W B m rows m N) (hm : rows.length = m) : MatN W (.slice (some ⟨B, 0, none⟩) m m) rows N := by
  subst hm
  refine ⟨_, _, rfl, Nat.le_refl _, fun h0 => ⟨_, _, rfl, h.lt, fun i zs hi => ?_⟩⟩
  obtain ⟨hi', e⟩ := List.getElem?_eq_some_iff.1 hi
  obtain ⟨Q, e1, hv, -, -⟩ := h.row i hi'
  rw [getD_row hi', e] at e1 hv
  exact ⟨_, by rw [Nat.zero_add]; exact e1, hv⟩

/-- Each row, and behind it what stands there among the others, with noughts up to its end. -/
def besL (n : Nat) (hs os : List (List Int)) : List (List Int) := List.zipWith (fun r o => r ++ (o ++ List.replicate (n - o.length) 0)) hs os

end Go.Proofs.YtofegldopgkikaaGreatDoor
