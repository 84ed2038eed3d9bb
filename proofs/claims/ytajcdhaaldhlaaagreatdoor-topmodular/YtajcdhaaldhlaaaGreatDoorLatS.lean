/- A vector in a lattice; a lattice in another one. -/
import Derived.Test.YtajcdhaaldhlaaaGreatDoorLatR
import Derived.Test.YtajcdhaaldhlaaaGreatDoorLatQ
namespace Go.Proofs.YtajcdhaaldhlaaaGreatDoor
open Go.RowKit Limbs

def MemberPost (w : World) (n nv nx : Nat) (hs : List (List Int)) (p : Nat → Nat) (zs : List Int) (e : Ending) (w' : World) : Prop :=
 Below w.heap.size w w' ∧ ((Gens n (InL hs) zs ∧ ∃ P, e = .returned (.tuple #[.slice (some ⟨P, 0, none⟩) hs.length hs.length, .bool true, .nilIface]) ∧ VecO w w' P (muchL hs p zs) (nx + hs.length * (nv + 2) + 1)) ∨
  (¬ Gens n (InL hs) zs ∧ e = .returned (.tuple #[.slice none 0 0, .bool false, .nilIface])))

structure AllI (w W : World) (n : Nat) (u v : Value) (m : Nat) (rows : List (List Int)) (k N : Nat) : Prop where
 low : Below w.heap.size w W
 lt : w.heap.size + 2 < W.heap.size
 blk : ∃ cs t, W.heap[w.heap.size + 2]? = some (.cells cs t)
 box : Box W w.heap.size (.int .i64 (n : Int)) u
 box2 : Box W (w.heap.size + 1) (.int .i64 (n : Int)) v
 nil : ∀ i, k ≤ i → i < m → W.cell? ⟨w.heap.size + 2, i, none⟩ = some (.slice none 0 0)
 row : ∀ i, i < k → ∃ Q, W.cell? ⟨w.heap.size + 2, i, none⟩ = some (.slice (some ⟨Q, 0, none⟩) (rows.getD i []).length (rows.getD i []).length) ∧ VecN W (.slice (some ⟨Q, 0, none⟩) (rows.getD i []).length (rows.getD i []).length) (rows.getD i []) N ∧ Q < W.heap.size ∧ Q ≠ w.heap.size + 2

theorem AllI.start {w W0 : World} (hsz : W0.heap.size = w.heap.size + 2) (hb : Below w.heap.size w W0) {n : Nat} {u v : Value} (hx : Box W0 w.heap.size (.int .i64 (n : Int)) u) (hy : Box W0 (w.heap.size + 1) (.int .i64 (n : Int)) v) (m : Nat) (rows : List (List Int)) (N : Nat) : AllI w (W0.alloc (.cells (madeCells #[.slice none 0 0] m) 39)) n u v m rows 0 N := by
 have hbb := (Below.refl W0.heap.size W0).alloc (Nat.le_refl _) (.cells (madeCells #[.slice none 0 0] m) 39)
 refine ⟨hb.alloc hb.size _, by simp; omega, ⟨_, _, by have := heap_alloc_new W0 (.cells (madeCells #[.slice none 0 0] m) 39); rw [hsz] at this; exact this⟩, hx.later hbb (by omega), hy.later hbb (by omega), fun i _ hi => ?_, fun i hi => absurd hi (by omega)⟩
 rw [← hsz, World.cell?_alloc_new]
 exact made_one m i hi

theorem AllI.later {w W W' : World} {n : Nat} {u v : Value} {m : Nat} {rows : List (List Int)} {k N : Nat} (h : AllI w W n u v m rows k N) (hb : Below W.heap.size W W') : AllI w W' n u v m rows k N where
 low := h.low.trans (hb.mono h.low.size)
 lt := Nat.lt_of_lt_of_le h.lt hb.size
 blk := by obtain ⟨cs, t, e⟩ := h.blk; exact ⟨cs, t, (hb.block _ (heap_lt e)).trans e⟩
 box := h.box.later hb (by have := h.lt; omega)
 box2 := h.box2.later hb (by have := h.lt; omega)
 nil := fun i h1 h2 => (hb.cell (p := ⟨w.heap.size + 2, i, none⟩) h.lt).trans (h.nil i h1 h2)
 row := fun i hi => by
  obtain ⟨Q, e, hv, hq, hne⟩ := h.row i hi
  exact ⟨Q, (hb.cell (p := ⟨w.heap.size + 2, i, none⟩) h.lt).trans e, hv.below hb (Nat.le_refl _), Nat.lt_of_lt_of_le hq hb.size, hne⟩

theorem AllI.thaw {w W : World} {n : Nat} {u v : Value} {m : Nat} {rows : List (List Int)} {k N : Nat} (h : AllI w W n u v m rows k N) (i : Nat) : W.frozen? ⟨w.heap.size + 2, i, none⟩ = false := by
 obtain ⟨cs, t, e⟩ := h.blk
 simp [World.frozen?, e]

theorem AllI.step {w W : World} {n : Nat} {u v : Value} {m : Nat} {rows : List (List Int)} {k N : Nat} (h : AllI w W n u v m rows k N) (hk : k < m) {Q : Nat} (hv : VecN W (.slice (some ⟨Q, 0, none⟩) (rows.getD k []).length (rows.getD k []).length) (rows.getD k []) N) (hq : Q < W.heap.size) (hne : Q ≠ w.heap.size + 2) :
  AllI w (W.setCell ⟨w.heap.size + 2, k, none⟩ (.slice (some ⟨Q, 0, none⟩) (rows.getD k []).length (rows.getD k []).length)) n u v m rows (k + 1) N := by
 have hnil := h.nil k (Nat.le_refl _) hk
 have hu : ∀ z, (Value.slice none 0 0) ≠ .int .u32 z := fun z e => by cases e
 refine ⟨h.low.setCell (by simp) _, by simpa using h.lt, ?_, h.box.other (by omega) _ _, h.box2.other (by omega) _ _, fun i h1 h2 => ?_, fun i hi => ?_⟩
 ·obtain ⟨cs, t, e⟩ := h.blk
  exact ⟨_, t, heap_setCell_same W (w.heap.size + 2) k _ _ _ e⟩
 ·exact (World.cell?_setCell_other (h := fun e => by simp at e <;> omega) ..).trans (h.nil i (by omega) h2)
 ·by_cases e : i = k
  ·subst e
   exact ⟨Q, World.cell?_setCell_same (h := hnil) .., hv.other hne hnil hu, by simpa using hq, hne⟩
  ·obtain ⟨Q', e', hv', hq', hne'⟩ := h.row i (by omega)
   exact ⟨Q', (World.cell?_setCell_other (h := fun e => by simp at e <;> omega) ..).trans e', hv'.other hne' hnil hu, by simpa using hq', hne'⟩

theorem AllI.mat {w W : World} {n : Nat} {u v : Value} {m : Nat} {rows : List (List Int)} {N : Nat} (h : AllI w W n u v m rows m N) (hm : rows.length = m) : MatN W (.slice (some ⟨w.heap.size + 2, 0, none⟩) m m) rows N := by
 subst hm
 refine ⟨_, _, rfl, Nat.le_refl _, fun h0 => ⟨_, _, rfl, h.lt, fun i zs hi => ?_⟩⟩
 obtain ⟨hi', e⟩ := List.getElem?_eq_some_iff.1 hi
 obtain ⟨Q, e1, hv, -, -⟩ := h.row i hi'
 rw [getD_row hi', e] at e1 hv
 exact ⟨_, by rw [Nat.zero_add]; exact e1, hv⟩

theorem run_mkM (m : Nat) (hm : m ≤ 1000) (W : World) : (Instr.makeSlice 28 (.int .i64 (m : Int)) (.int .i64 (m : Int))).run Tryz.prog W = .ok (.slice (some ⟨W.heap.size, 0, none⟩) m m) (W.alloc (.cells (madeCells #[.slice none 0 0] m) 39)) := by
 obtain ⟨i0, hi, hz0, hz1, hz2⟩ := info_parts Tryz.infoVec
 have h := run_make (P := Tryz.prog) W 28 39 i0 (.slice none 0 0) (by kernel_rfl) hi hz0 .i64 .i64 m m (by omega) (by omega) (by rw [hz2]; omega) (by omega)
 rw [hz1, Int.toNat_natCast, Nat.mul_one] at h
 exact h

def AllPost (w : World) (n nv mv : Nat) (hs ks : List (List Int)) (p : Nat → Nat) (e : Ending) (w' : World) : Prop :=
 Below w.heap.size w w' ∧ (((∀ us ∈ hs, Gens n (InL ks) us) ∧ ∃ m, e = .returned (.tuple #[m, .bool true]) ∧ MatN w' m (hs.map (muchL ks p)) (nv + ks.length * (mv + 2) + 1)) ∨
  ((¬ ∀ us ∈ hs, Gens n (InL ks) us) ∧ e = .returned (.tuple #[.slice none 0 0, .bool false])))

end Go.Proofs.YtajcdhaaldhlaaaGreatDoor
