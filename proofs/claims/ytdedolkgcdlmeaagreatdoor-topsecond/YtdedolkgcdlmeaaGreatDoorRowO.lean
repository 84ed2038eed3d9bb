/- A row of the reference's numbers of one's own, being made. -/
import Derived.Test.YtdedolkgcdlmeaaGreatDoorFromM
import Derived.Test.YtdedolkgcdlmeaaGreatDoorRefB
import Derived.Laws.MakeOwn
namespace Go.Proofs.YtdedolkgcdlmeaaGreatDoor
open Go.RowKit Limbs Digs

theorem NumR.nought (w : World) (n : Nat) : NumR w (.agg #[.int .i64 0, .slice none 0 0]) 0 n :=
  ⟨0, .slice none 0 0, [], rfl, ⟨none, 0, rfl, Nat.le_refl _, by simp, by intro i; simp, fun h => absurd h (by simp)⟩, .inl rfl, by simp, .inl ⟨rfl, rfl, rfl⟩, by simp⟩

/-- Such a row: it lies in its own block; each place has its own bound. -/
structure RowO (w W : World) (P : Nat) (zs : List Int) (nb : Nat → Nat) : Prop where
  cells : ∀ i, i < zs.length → ∃ (s : Int) (o : Option Addr) (l c : Nat), W.cell? ⟨P, i * 2, none⟩ = some (.int .i64 s) ∧ W.cell? ⟨P, i * 2 + 1, none⟩ = some (.slice o l c) ∧ NumR W (.agg #[.int .i64 s, .slice o l c]) (zs.getD i 0) (nb i)
  low : w.heap.size ≤ P
  below : Below w.heap.size w W
  blk : ∃ cs, W.heap[P]? = some (.cells cs 40)

theorem RowO.lt {w W : World} {P : Nat} {zs : List Int} {nb : Nat → Nat} (h : RowO w W P zs nb) : P < W.heap.size := by
  obtain ⟨cs, e⟩ := h.blk
  exact heap_lt e

theorem RowO.later {w W W' : World} {P : Nat} {zs : List Int} {nb : Nat → Nat} (h : RowO w W P zs nb) (hb : Below W.heap.size W W') : RowO w W' P zs nb where
  cells := fun i hi => by
    obtain ⟨s, o, l, c, h1, h2, h3⟩ := h.cells i hi
    exact ⟨s, o, l, c, (hb.cell (p := ⟨P, i * 2, none⟩) h.lt).trans h1, (hb.cell (p := ⟨P, i * 2 + 1, none⟩) h.lt).trans h2, h3.below hb (Nat.le_refl _)⟩
  low := h.low
  below := h.below.trans (hb.mono h.below.size)
  blk := by obtain ⟨cs, e⟩ := h.blk; exact ⟨cs, (hb.block _ (heap_lt e)).trans e⟩

theorem RowO.drew {w W : World} {P : Nat} {zs : List Int} {nb : Nat → Nat} (h : RowO w W P zs nb) : RowO w W.drew P zs nb := ⟨h.cells, h.low, h.below.drew, h.blk⟩

theorem RowO.mono {w W : World} {P : Nat} {zs : List Int} {nb nb' : Nat → Nat} (h : RowO w W P zs nb) (hn : ∀ i, i < zs.length → nb i ≤ nb' i) : RowO w W P zs nb' where
  cells := fun i hi => by
    obtain ⟨s, o, l, c, h1, h2, h3⟩ := h.cells i hi
    exact ⟨s, o, l, c, h1, h2, h3.mono (hn i hi)⟩
  low := h.low
  below := h.below
  blk := h.blk

theorem RowO.thaw {w W : World} {P : Nat} {zs : List Int} {nb : Nat → Nat} (h : RowO w W P zs nb) (k : Nat) : W.frozen? ⟨P, k, none⟩ = false := by
  obtain ⟨cs, e⟩ := h.blk
  simp [World.frozen?, e]

theorem madeR_cell (m i : Nat) (hi : i < m) : (madeCells #[.int .i64 0, .slice none 0 0] (m * 2))[i * 2]? = some (.int .i64 0) ∧ (madeCells #[.int .i64 0, .slice none 0 0] (m * 2))[i * 2 + 1]? = some (.slice none 0 0) := by
  have h1 : i * 2 < m * 2 := by omega
  have h2 : i * 2 + 1 < m * 2 := by omega
  have e1 : i * 2 % 2 = 0 := by omega
  have e2 : (i * 2 + 1) % 2 = 1 := by omega
  constructor
  · simp [madeCells, h1, e1]
  · simp [madeCells, h2, e2]

theorem RowO.made (w W : World) (hb : Below w.heap.size w W) (m : Nat) (nb : Nat → Nat) : RowO w (W.alloc (.cells (madeCells #[.int .i64 0, .slice none 0 0] (m * 2)) 40)) W.heap.size (List.replicate m 0) nb where
  cells := fun i hi => by
    rw [List.length_replicate] at hi
    refine ⟨0, none, 0, 0, ?_, ?_, ?_⟩
    · rw [World.cell?_alloc_new]; exact (madeR_cell m i hi).1
    · rw [World.cell?_alloc_new]; exact (madeR_cell m i hi).2
    · have e : (List.replicate m (0 : Int)).getD i 0 = 0 := by
        rw [List.getD_eq_getElem?_getD, List.getElem?_replicate]
        split <;> rfl
      rw [e]
      exact NumR.nought _ _
  low := hb.size
  below := hb.alloc hb.size _
  blk := ⟨_, heap_alloc_new W _⟩

theorem NumR.setTyped {w : World} {v : Value} {z : Int} {n : Nat} (h : NumR w v z n) {B : Nat} {c : Array Value} {t : TypeId} {fz : Nat × Nat} (hB : w.heap[B]? = some (.cells c t fz)) (ht : t ≠ 3) (k : Nat) (u : Value) : NumR (w.setCell ⟨B, k, none⟩ u) v z n := by
  obtain ⟨s, sl, ds, h1, h2, h3⟩ := h
  exact ⟨s, sl, ds, h1, h2.setCell hB ht k u, h3⟩

theorem RowO.set {w W : World} {P : Nat} {zs : List Int} {nb : Nat → Nat} (h : RowO w W P zs nb) {k : Nat} (hk : k < zs.length) {s : Int} {o : Option Addr} {l c : Nat} {z : Int} {m : Nat} (hz : NumR W (.agg #[.int .i64 s, .slice o l c]) z m) :
    RowO w ((W.setCell ⟨P, k * 2, none⟩ (.int .i64 s)).setCell ⟨P, k * 2 + 1, none⟩ (.slice o l c)) P (zs.set k z) (fun i => if i = k then m else nb i) := by
  obtain ⟨cs, hblk⟩ := h.blk
  have hblk' := heap_setCell_same W P (k * 2) _ _ (.int .i64 s) hblk
  obtain ⟨s0, o0, l0, c0, k0, k1, -⟩ := h.cells k hk
  have k1' : (W.setCell ⟨P, k * 2, none⟩ (.int .i64 s)).cell? ⟨P, k * 2 + 1, none⟩ = some (.slice o0 l0 c0) := (World.cell?_setCell_other (h := fun e => by simp at e) ..).trans k1
  have keep : ∀ {v : Value} {y : Int} {q : Nat}, NumR W v y q → NumR ((W.setCell ⟨P, k * 2, none⟩ (.int .i64 s)).setCell ⟨P, k * 2 + 1, none⟩ (.slice o l c)) v y q := fun hv =>
    (hv.setTyped hblk (by decide) _ _).setTyped hblk' (by decide) _ _
  have hlen : (zs.set k z).length = zs.length := List.length_set
  refine ⟨fun i hi => ?_, h.low, (h.below.setCell (by exact h.low) _).setCell (by exact h.low) _, ⟨_, heap_setCell_same _ P (k * 2 + 1) _ _ _ hblk'⟩⟩
  rw [hlen] at hi
  by_cases hik : i = k
  · subst hik
    refine ⟨s, o, l, c, (World.cell?_setCell_other (h := fun e => by simp at e) ..).trans (World.cell?_setCell_same (h := k0) ..), World.cell?_setCell_same (h := k1') .., ?_⟩
    have e : (zs.set i z).getD i 0 = z := by rw [List.getD_eq_getElem?_getD, List.getElem?_set_self hi]; rfl
    rw [e, if_pos rfl]
    exact keep hz
  · obtain ⟨s1, o1, l1, c1, m0, m1, m2⟩ := h.cells i hi
    refine ⟨s1, o1, l1, c1, ?_, ?_, ?_⟩
    · exact ((World.cell?_setCell_other (h := fun e => by simp at e <;> omega) ..).trans (World.cell?_setCell_other (h := fun e => by simp at e <;> omega) ..)).trans m0
    · exact ((World.cell?_setCell_other (h := fun e => by simp at e <;> omega) ..).trans (World.cell?_setCell_other (h := fun e => by simp at e <;> omega) ..)).trans m1
    · have e : (zs.set k z).getD i 0 = zs.getD i 0 := by
        rw [List.getD_eq_getElem?_getD, List.getD_eq_getElem?_getD, List.getElem?_set_ne (by omega)]
      rw [e, if_neg hik]
      exact keep m2

/-- As a row. -/
theorem RowO.row {w W : World} {P : Nat} {zs : List Int} {nb : Nat → Nat} {n : Nat} (h : RowO w W P zs nb) (hn : ∀ i, i < zs.length → nb i ≤ n) : RowR W (.slice (some ⟨P, 0, none⟩) zs.length zs.length) zs n := by
  obtain ⟨cs, hblk⟩ := h.blk
  refine ⟨_, _, rfl, Nat.le_refl _, fun _ => ⟨P, cs, _, rfl, hblk, fun i hi => ?_⟩⟩
  obtain ⟨s, o, l, c, h1, h2, h3⟩ := h.cells i hi
  exact ⟨s, o, l, c, h1, h2, h3.mono (hn i hi)⟩

end Go.Proofs.YtdedolkgcdlmeaaGreatDoor
