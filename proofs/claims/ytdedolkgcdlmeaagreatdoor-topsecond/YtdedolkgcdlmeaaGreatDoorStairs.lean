/- The stairs while rows are put into them: a block of one's own, with rows of one's own. -/
import Derived.Test.YtdedolkgcdlmeaaGreatDoorLower
namespace Go.Proofs.YtdedolkgcdlmeaaGreatDoor
open Go.RowKit Limbs

/-- A cell of another block is written: a vector is as it was. -/
theorem VecN.other {W : World} {b off cap sb k : Nat} {zs : List Int} {n : Nat} {u x : Value} (h : VecN W (.slice (some ⟨b, off, none⟩) zs.length cap) zs n) (hne : b ≠ sb) (hp : W.cell? ⟨sb, k, none⟩ = some u) (hu : ∀ z, u ≠ .int .u32 z) :
    VecN (W.setCell ⟨sb, k, none⟩ x) (.slice (some ⟨b, off, none⟩) zs.length cap) zs n := by
  obtain ⟨ao, cap', e, h1, h2⟩ := h
  simp only [Value.slice.injEq, true_and] at e
  obtain ⟨rfl, rfl⟩ := e
  refine ⟨_, _, rfl, h1, fun h0 => ?_⟩
  obtain ⟨b', off', e, hlt, hc⟩ := h2 h0
  simp only [Option.some.injEq, Addr.mk.injEq, and_true] at e
  obtain ⟨rfl, rfl⟩ := e
  refine ⟨_, _, rfl, by simpa using hlt, fun i hi => ?_⟩
  obtain ⟨neg, o, l, c, h3, h4, h5⟩ := hc i hi
  exact ⟨neg, o, l, c, (World.cell?_setCell_other (h := fun e => by simp at e <;> omega) ..).trans h3, (World.cell?_setCell_other (h := fun e => by simp at e <;> omega) ..).trans h4, h5.setCell hp hu⟩

theorem VecO.other {w W : World} {P sb k : Nat} {zs : List Int} {n : Nat} {u x : Value} (h : VecO w W P zs n) (hne : P ≠ sb) (hlow : w.heap.size ≤ sb) (hp : W.cell? ⟨sb, k, none⟩ = some u) (hu : ∀ z, u ≠ .int .u32 z) :
    VecO w (W.setCell ⟨sb, k, none⟩ x) P zs n where
  vec := h.vec.other hne hp hu
  low := h.low
  below := h.below.setCell hlow _
  blk := by
    obtain ⟨cs, e⟩ := h.blk
    exact ⟨cs, (heap_setCell_other W ⟨sb, k, none⟩ P x hne).trans e⟩

/-- Rows of one's own by the places of their pivots, in a block of one's own; ns: how many limbs the numbers of each have at most. -/
structure StairO (w W : World) (sb m : Nat) (rows : Nat → Option (List Int)) (len : Nat) (ns : Nat → Nat) : Prop where
  lt : sb < W.heap.size
  low : w.heap.size ≤ sb
  below : Below w.heap.size w W
  blk : ∃ cs t, W.heap[sb]? = some (.cells cs t)
  nil : ∀ i, i < m → rows i = none → W.cell? ⟨sb, i, none⟩ = some (.slice none 0 0)
  row : ∀ i, i < m → ∀ r, rows i = some r → ∃ P, W.cell? ⟨sb, i, none⟩ = some (.slice (some ⟨P, 0, none⟩) r.length r.length) ∧ VecO w W P r (ns i) ∧ P ≠ sb ∧ r.length = len ∧ 0 < r.getD i 0

theorem StairO.stair {w W : World} {sb m : Nat} {rows : Nat → Option (List Int)} {len : Nat} {ns : Nat → Nat} (h : StairO w W sb m rows len ns) {f n : Nat} (hn : ∀ i, f ≤ i → i < m → ns i ≤ n) : Stair W sb f m rows len n where
  lt := h.lt
  nil := fun i _ hi e => h.nil i hi e
  row := fun i hf hi r e => by
    obtain ⟨P, hc, hv, -, h1, h2⟩ := h.row i hi r e
    exact ⟨P, 0, r.length, hc, hv.vec.mono (hn i hf hi), h1, h2⟩

theorem StairO.later {w W W' : World} {sb m : Nat} {rows : Nat → Option (List Int)} {len : Nat} {ns : Nat → Nat} (h : StairO w W sb m rows len ns) (hb : Below W.heap.size W W') : StairO w W' sb m rows len ns where
  lt := Nat.lt_of_lt_of_le h.lt hb.size
  low := h.low
  below := h.below.trans (hb.mono h.below.size)
  blk := by obtain ⟨cs, t, e⟩ := h.blk; exact ⟨cs, t, (hb.block _ h.lt).trans e⟩
  nil := fun i hi e => (hb.cell (p := ⟨sb, i, none⟩) h.lt).trans (h.nil i hi e)
  row := fun i hi r e => by
    obtain ⟨P, hc, hv, h0, h1, h2⟩ := h.row i hi r e
    exact ⟨P, (hb.cell (p := ⟨sb, i, none⟩) h.lt).trans hc, hv.later hb, h0, h1, h2⟩

theorem StairO.mono {w W : World} {sb m : Nat} {rows : Nat → Option (List Int)} {len : Nat} {ns ns' : Nat → Nat} (h : StairO w W sb m rows len ns) (hn : ∀ i, i < m → rows i ≠ none → ns i ≤ ns' i) : StairO w W sb m rows len ns' :=
  ⟨h.lt, h.low, h.below, h.blk, h.nil, fun i hi r e => by
    obtain ⟨P, hc, hv, h0, h1, h2⟩ := h.row i hi r e
    exact ⟨P, hc, ⟨hv.vec.mono (hn i hi (by rw [e]; exact fun h => by cases h)), hv.low, hv.below, hv.blk⟩, h0, h1, h2⟩⟩

/-- What stands in a place is a slice. -/
theorem StairO.cell {w W : World} {sb m : Nat} {rows : Nat → Option (List Int)} {len : Nat} {ns : Nat → Nat} (h : StairO w W sb m rows len ns) {i : Nat} (hi : i < m) : ∃ o l c, W.cell? ⟨sb, i, none⟩ = some (.slice o l c) := by
  cases e : rows i with
  | none => exact ⟨_, _, _, h.nil i hi e⟩
  | some r => obtain ⟨P, hc, -⟩ := h.row i hi r e; exact ⟨_, _, _, hc⟩

theorem StairO.thaw {w W : World} {sb m : Nat} {rows : Nat → Option (List Int)} {len : Nat} {ns : Nat → Nat} (h : StairO w W sb m rows len ns) (k : Nat) : W.frozen? ⟨sb, k, none⟩ = false := by
  obtain ⟨cs, t, e⟩ := h.blk
  simp [World.frozen?, e]

/-- One place is written. -/
theorem StairO.set {w W : World} {sb m : Nat} {rows : Nat → Option (List Int)} {len : Nat} {ns : Nat → Nat} (h : StairO w W sb m rows len ns) {k : Nat} (hk : k < m) {P n : Nat} {r : List Int} (hv : VecO w W P r n) (hP : P ≠ sb) (hl : r.length = len) (hp : 0 < r.getD k 0) :
    StairO w (W.setCell ⟨sb, k, none⟩ (.slice (some ⟨P, 0, none⟩) r.length r.length)) sb m (fun i => if i = k then some r else rows i) len (fun i => if i = k then n else ns i) := by
  obtain ⟨o, l, c, hc⟩ := h.cell hk
  have hu : ∀ z, Value.slice o l c ≠ .int .u32 z := fun z e => by cases e
  have oth : ∀ i u, i ≠ k → W.cell? ⟨sb, i, none⟩ = some u → (W.setCell ⟨sb, k, none⟩ (.slice (some ⟨P, 0, none⟩) r.length r.length)).cell? ⟨sb, i, none⟩ = some u := fun i u hi e =>
    (World.cell?_setCell_other (h := fun e => by simp at e <;> omega) ..).trans e
  refine ⟨by simpa using h.lt, h.low, h.below.setCell h.low _, ?_, ?_, ?_⟩
  · obtain ⟨cs, t, e⟩ := h.blk
    exact ⟨_, _, heap_setCell_same W sb k _ _ _ e⟩
  · intro i hi e
    by_cases hik : i = k
    · rw [if_pos hik] at e; cases e
    · rw [if_neg hik] at e
      exact oth i _ hik (h.nil i hi e)
  · intro i hi r' e
    by_cases hik : i = k
    · rw [if_pos hik] at e
      obtain rfl := Option.some.inj e
      subst hik
      exact ⟨P, World.cell?_setCell_same (h := hc) .., by rw [if_pos rfl]; exact hv.other hP h.low hc hu, hP, hl, hp⟩
    · rw [if_neg hik] at e
      obtain ⟨P', hc', hv', h0, h1, h2⟩ := h.row i hi r' e
      exact ⟨P', oth i _ hik hc', by rw [if_neg hik]; exact hv'.other h0 h.low hc hu, h0, h1, h2⟩

end Go.Proofs.YtdedolkgcdlmeaaGreatDoor
