/- The reference's rows: numbers in a row, and rows of these, that grow at their end. -/
import Derived.Test.YtajcdhaaldhlaaaGreatDoorMats
import Derived.Test.YtajcdhaaldhlaaaGreatDoorRefJ
import Derived.OwnWalk
import Derived.Test.YtajcdhaaldhlaaaGreatDoorRefB
import Derived.Laws.MakeOwn

namespace Go.Proofs.YtajcdhaaldhlaaaGreatDoor
open Go.RowKit Limbs Digs

def Typed (W : World) (row : Option Nat) (ts : List TypeId) : Prop := ∀ g, row = some g → ∃ cur t fz, W.heap[g]? = some (.cells cur t fz) ∧ t ∉ ts

theorem Typed.none (W : World) (ts : List TypeId) : Typed W none ts := fun _ h => by cases h

theorem Dig.grown {W W' : World} {row : Option Nat} {v : Value} {ds : List Int} (h : Dig W v ds) (hg : W.grownBy W' row) (hr : Typed W row [3]) : Dig W' v ds := by
 obtain ⟨ao, cap, hv, h1, h2, h3, h4⟩ := h
 refine ⟨ao, cap, hv, h1, h2, h3, fun h0 => ?_⟩
 obtain ⟨b, off, cur, fz, e, hb, hc⟩ := h4 h0
 have hne : some b ≠ row := fun e => by
  obtain ⟨cur', t, fz', h5, h6⟩ := hr b e.symm
  rw [hb] at h5
  simp only [Option.some.injEq, Obj.cells.injEq] at h5
  exact h6 (by rw [← h5.2.1]; exact List.mem_singleton.2 rfl)
 exact ⟨b, off, cur, fz, e, (hg.block b (heap_lt hb) hne).trans hb, fun i hi => hg.cell (hc i hi) hne⟩

theorem NumR.grown {W W' : World} {row : Option Nat} {v : Value} {z : Int} {n : Nat} (h : NumR W v z n) (hg : W.grownBy W' row) (hr : Typed W row [3]) : NumR W' v z n := by
 obtain ⟨s, sl, ds, h1, h2, h3⟩ := h
 exact ⟨s, sl, ds, h1, h2.grown hg hr, h3⟩

structure Rn where
 s : Int
 o : Option Addr
 l : Nat
 c : Nat

def Rn.val (r : Rn) : Value := .agg #[.int .i64 r.s, .slice r.o r.l r.c]
def rcells (p : Rn × Int) : List Value := [.int .i64 p.1.s, .slice p.1.o p.1.l p.1.c]

def RowR (W : World) (v : Value) (zs : List Int) (n : Nat) : Prop :=
 ∃ ao cap, v = .slice ao zs.length cap ∧ zs.length ≤ cap ∧ (0 < zs.length → ∃ b cur fz, ao = some ⟨b, 0, none⟩ ∧ W.heap[b]? = some (.cells cur 85 fz) ∧
  ∀ i, i < zs.length → ∃ (s : Int) (o : Option Addr) (l c : Nat), W.cell? ⟨b, i * 2, none⟩ = some (.int .i64 s) ∧ W.cell? ⟨b, i * 2 + 1, none⟩ = some (.slice o l c) ∧ NumR W (.agg #[.int .i64 s, .slice o l c]) (zs.getD i 0) n)

theorem RowR.below {B : Nat} {W W' : World} {v : Value} {zs : List Int} {n : Nat} (h : RowR W v zs n) (hb : Below B W W') (hB : W.heap.size ≤ B) : RowR W' v zs n := by
 obtain ⟨ao, cap, hv, h1, h2⟩ := h
 refine ⟨ao, cap, hv, h1, fun h0 => ?_⟩
 obtain ⟨b, cur, fz, e, hh, hc⟩ := h2 h0
 have hlt := heap_lt hh
 refine ⟨b, cur, fz, e, (hb.block _ (by omega)).trans hh, fun i hi => ?_⟩
 obtain ⟨s, o, l, c, h3, h4, h5⟩ := hc i hi
 exact ⟨s, o, l, c, (hb.cell (p := ⟨b, i * 2, none⟩) (by show b < B; omega)).trans h3, (hb.cell (p := ⟨b, i * 2 + 1, none⟩) (by show b < B; omega)).trans h4, h5.below hb hB⟩

theorem RowR.grown {W W' : World} {row : Option Nat} {v : Value} {zs : List Int} {n : Nat} (h : RowR W v zs n) (hg : W.grownBy W' row) (hr : Typed W row [3, 85]) : RowR W' v zs n := by
 obtain ⟨ao, cap, hv, h1, h2⟩ := h
 refine ⟨ao, cap, hv, h1, fun h0 => ?_⟩
 obtain ⟨b, cur, fz, e, hh, hc⟩ := h2 h0
 have hr' : Typed W row [3] := fun g hg => by
  obtain ⟨cur', t, fz', h5, h6⟩ := hr g hg
  exact ⟨cur', t, fz', h5, fun h => h6 (by rw [List.mem_singleton] at h; rw [h]; exact List.mem_cons_self)⟩
 have hne : some b ≠ row := fun e => by
  obtain ⟨cur', t, fz', h5, h6⟩ := hr b e.symm
  rw [hh] at h5
  simp only [Option.some.injEq, Obj.cells.injEq] at h5
  exact h6 (by rw [← h5.2.1]; exact List.mem_cons_of_mem _ (List.mem_singleton.2 rfl))
 refine ⟨b, cur, fz, e, (hg.block b (heap_lt hh) hne).trans hh, fun i hi => ?_⟩
 obtain ⟨s, o, l, c, h3, h4, h5⟩ := hc i hi
 exact ⟨s, o, l, c, hg.cell h3 hne, hg.cell h4 hne, h5.grown hg hr'⟩

theorem RowR.at {W : World} {v : Value} {zs : List Int} {n : Nat} (h : RowR W v zs n) (i : Nat) (hi : i < zs.length) : ∃ b cap, v = .slice (some ⟨b, 0, none⟩) zs.length cap ∧ b < W.heap.size ∧ ∃ (s : Int) (o : Option Addr) (l c : Nat), W.cell? ⟨b, i * 2, none⟩ = some (.int .i64 s) ∧ W.cell? ⟨b, i * 2 + 1, none⟩ = some (.slice o l c) ∧ NumR W (.agg #[.int .i64 s, .slice o l c]) (zs.getD i 0) n := by
 obtain ⟨ao, cap, rfl, -, h2⟩ := h
 obtain ⟨b, cur, fz, rfl, hh, hc⟩ := h2 (by omega)
 exact ⟨b, cap, rfl, heap_lt hh, hc i hi⟩

def GrowR (W : World) (base : Nat) (v : Value) (ps : List (Rn × Int)) (n : Nat) : Prop :=
 W.ownsRow base 85 2 v ps.length (ps.flatMap rcells) ∧ ∀ p ∈ ps, NumR W p.1.val p.2 n

theorem GrowR.nil (W : World) (base n : Nat) : GrowR W base (.slice none 0 0) [] n := ⟨World.ownsRow_nil _ _ _ _, fun _ h => by cases h⟩

theorem ownsRow_typed {W : World} {base : Nat} {e : TypeId} {size : Nat} {v : Value} {n : Nat} {xs : List Value} {ts : List TypeId} (h : W.ownsRow base e size v n xs) (he : e ∉ ts) : Typed W v.ownBlock ts := fun g hg => by
 rcases h.2 with ⟨rfl, -⟩ | ⟨g', cap, cur, rfl, hbg, hh, -⟩
 ·cases hg
 ·simp only [Value.ownBlock, Option.some.injEq] at hg
  rw [← hg]
  exact ⟨cur, e, _, hh, he⟩

theorem GrowR.later {W W' : World} {base : Nat} {v : Value} {ps : List (Rn × Int)} {n : Nat} (h : GrowR W base v ps n) (hb : Below W.heap.size W W') : GrowR W' base v ps n :=
 ⟨ownsRow_later h.1 hb, fun p hp => (h.2 p hp).below hb (Nat.le_refl _)⟩

theorem Typed.alloc {W : World} {row : Option Nat} {ts : List TypeId} (h : Typed W row ts) (ob : Obj) : Typed (W.alloc ob) row ts := fun g hg => by
 obtain ⟨cur, t, fz, h1, h2⟩ := h g hg
 exact ⟨cur, t, fz, (((Below.refl W.heap.size W).alloc (Nat.le_refl _) ob).block _ (heap_lt h1)).trans h1, h2⟩

theorem growR_snoc {base : Nat} {wr w3 : World} {v : Value} {ps : List (Rn × Int)} {n : Nat} {r : Rn} {z : Int} {g cap : Nat} {ob : Obj} (h : GrowR wr base v ps n) (hz : NumR wr r.val z n)
  (hown : w3.ownsRow base 85 2 (.slice (some ⟨g, 0, none⟩) (ps.length + 1) cap) (ps.length + 1) (ps.flatMap rcells ++ rcells (r, z)))
  (hg : (wr.alloc ob).grownBy w3 v.ownBlock) : GrowR w3 base (.slice (some ⟨g, 0, none⟩) (ps.length + 1) cap) (ps ++ [(r, z)]) n := by
 have hty : Typed (wr.alloc ob) v.ownBlock [3] := (ownsRow_typed h.1 (by decide)).alloc ob
 refine ⟨by rw [List.length_append, List.length_singleton, List.flatMap_append, List.flatMap_singleton]; exact hown, fun p hp => ?_⟩
 rcases List.mem_append.1 hp with h' | h'
 ·exact ((h.2 p h').below ((Below.refl _ _).alloc (Nat.le_refl _) ob) (Nat.le_refl _)).grown hg hty
 ·rw [List.mem_singleton] at h'
  rw [h']
  exact (hz.below ((Below.refl _ _).alloc (Nat.le_refl _) ob) (Nat.le_refl _)).grown hg hty

theorem rcells_at (ps : List (Rn × Int)) : ∀ i (h : i < ps.length), (ps.flatMap rcells)[i * 2]? = some (.int .i64 ps[i].1.s) ∧ (ps.flatMap rcells)[i * 2 + 1]? = some (.slice ps[i].1.o ps[i].1.l ps[i].1.c) := by
 induction ps with
 | nil => intro i h; exact absurd h (by simp)
 | cons p ps ih =>
  intro i h
  rw [List.flatMap_cons]
  cases i with
  | zero => exact ⟨rfl, rfl⟩
  | succ i =>
   obtain ⟨h1, h2⟩ := ih i (by simpa using h)
   have e1 : (i + 1) * 2 = i * 2 + 2 := by omega
   rw [e1, show i * 2 + 2 + 1 = i * 2 + 1 + 2 by omega, List.getElem?_append_right (by simp [rcells]), List.getElem?_append_right (by simp [rcells])]
   exact ⟨h1, h2⟩

theorem GrowR.row {W : World} {base : Nat} {v : Value} {ps : List (Rn × Int)} {n : Nat} (h : GrowR W base v ps n) : RowR W v (ps.map (·.2)) n := by
 obtain ⟨⟨-, h1⟩, h2⟩ := h
 have hlen : (ps.map (·.2)).length = ps.length := List.length_map ..
 rcases h1 with ⟨rfl, hn⟩ | ⟨g, cap, cur, rfl, hb, hh, hc1, hc2, hc3, hc4⟩
 ·exact ⟨none, 0, by rw [hlen, hn], by rw [hlen]; omega, fun h0 => absurd h0 (by rw [hlen]; omega)⟩
 ·refine ⟨_, cap, by rw [hlen], by rw [hlen]; exact hc1, fun h0 => ⟨g, cur, _, rfl, hh, fun i hi => ?_⟩⟩
  rw [hlen] at hi
  obtain ⟨e1, e2⟩ := rcells_at ps i hi
  have hcell : ∀ k u, k < ps.length * 2 → (ps.flatMap rcells)[k]? = some u → W.cell? ⟨g, k, none⟩ = some u := fun k u hk hu => by
   have := World.news_of_block hh k u (by rw [← hc4, List.getElem?_take, if_pos hk] at hu; exact hu)
   have e : (⟨g, 0, none⟩ : Addr).add k = ⟨g, k, none⟩ := by unfold Addr.add; split <;> simp_all
   rwa [e] at this
  refine ⟨ps[i].1.s, ps[i].1.o, ps[i].1.l, ps[i].1.c, hcell _ _ (by omega) e1, hcell _ _ (by omega) e2, ?_⟩
  have e3 : (ps.map (·.2)).getD i 0 = ps[i].2 := by
   rw [List.getD_eq_getElem?_getD, List.getElem?_map, List.getElem?_eq_getElem hi]; rfl
  rw [e3]
  exact h2 _ (List.getElem_mem hi)

def MatR (W : World) (v : Value) (zss : List (List Int)) (n : Nat) : Prop :=
 ∃ ao cap, v = .slice ao zss.length cap ∧ zss.length ≤ cap ∧ (0 < zss.length → ∃ b, ao = some ⟨b, 0, none⟩ ∧ b < W.heap.size ∧ ∀ i zs, zss[i]? = some zs → ∃ u, W.cell? ⟨b, i, none⟩ = some u ∧ RowR W u zs n)

theorem MatR.below {B : Nat} {w w' : World} {v : Value} {zss : List (List Int)} {n : Nat} (h : MatR w v zss n) (hb : Below B w w') (hB : w.heap.size ≤ B) : MatR w' v zss n := by
 obtain ⟨ao, cap, hv, h1, h2⟩ := h
 refine ⟨ao, cap, hv, h1, fun h0 => ?_⟩
 obtain ⟨b, e, hlt, hc⟩ := h2 h0
 refine ⟨b, e, Nat.lt_of_lt_of_le hlt hb.size, fun i zs hi => ?_⟩
 obtain ⟨u, h3, h4⟩ := hc i zs hi
 exact ⟨u, (hb.cell (p := ⟨b, i, none⟩) (Nat.lt_of_lt_of_le hlt hB)).trans h3, h4.below hb hB⟩

def GrowM (W : World) (base : Nat) (v : Value) (qs : List (Value × List Int)) (n : Nat) : Prop :=
 W.ownsRow base 83 1 v qs.length (qs.map (·.1)) ∧ ∀ q ∈ qs, RowR W q.1 q.2 n

theorem GrowM.later {W W' : World} {base : Nat} {v : Value} {qs : List (Value × List Int)} {n : Nat} (h : GrowM W base v qs n) (hb : Below W.heap.size W W') : GrowM W' base v qs n :=
 ⟨ownsRow_later h.1 hb, fun p hp => (h.2 p hp).below hb (Nat.le_refl _)⟩

theorem growM_snoc {base : Nat} {wr w3 : World} {v : Value} {qs : List (Value × List Int)} {n : Nat} {u : Value} {zs : List Int} {g cap : Nat} {ob : Obj} (h : GrowM wr base v qs n) (hz : RowR wr u zs n)
  (hown : w3.ownsRow base 83 1 (.slice (some ⟨g, 0, none⟩) (qs.length + 1) cap) (qs.length + 1) (qs.map (·.1) ++ [u]))
  (hg : (wr.alloc ob).grownBy w3 v.ownBlock) : GrowM w3 base (.slice (some ⟨g, 0, none⟩) (qs.length + 1) cap) (qs ++ [(u, zs)]) n := by
 have hty : Typed (wr.alloc ob) v.ownBlock [3, 85] := (ownsRow_typed h.1 (by decide)).alloc ob
 refine ⟨by rw [List.length_append, List.length_singleton, List.map_append]; exact hown, fun p hp => ?_⟩
 rcases List.mem_append.1 hp with h' | h'
 ·exact ((h.2 p h').below ((Below.refl _ _).alloc (Nat.le_refl _) ob) (Nat.le_refl _)).grown hg hty
 ·rw [List.mem_singleton] at h'
  rw [h']
  exact (hz.below ((Below.refl _ _).alloc (Nat.le_refl _) ob) (Nat.le_refl _)).grown hg hty

theorem GrowM.mat {W : World} {base : Nat} {v : Value} {qs : List (Value × List Int)} {n : Nat} (h : GrowM W base v qs n) : MatR W v (qs.map (·.2)) n := by
 obtain ⟨⟨-, h1⟩, h2⟩ := h
 have hlen : (qs.map (·.2)).length = qs.length := List.length_map ..
 rcases h1 with ⟨rfl, hn⟩ | ⟨g, cap, cur, rfl, hb, hh, hc1, hc2, hc3, hc4⟩
 ·exact ⟨none, 0, by rw [hlen, hn], by rw [hlen]; omega, fun h0 => absurd h0 (by rw [hlen]; omega)⟩
 ·refine ⟨_, cap, by rw [hlen], by rw [hlen]; exact hc1, fun h0 => ⟨g, rfl, heap_lt hh, fun i zs hi => ?_⟩⟩
  obtain ⟨hi', e⟩ := List.getElem?_eq_some_iff.1 hi
  rw [hlen] at hi'
  have e' : zs = qs[i].2 := by rw [← e, List.getElem_map]
  have := World.news_of_block hh i qs[i].1 (by
   have e : (qs.map (·.1))[i]? = some qs[i].1 := by rw [List.getElem?_map, List.getElem?_eq_getElem hi']; rfl
   rw [← hc4, List.getElem?_take, if_pos (by omega)] at e
   exact e)
  have ea : (⟨g, 0, none⟩ : Addr).add i = ⟨g, i, none⟩ := by unfold Addr.add; split <;> simp_all
  rw [ea] at this
  exact ⟨_, this, by rw [e']; exact h2 _ (List.getElem_mem hi')⟩

end Go.Proofs.YtajcdhaaldhlaaaGreatDoor

/- The reference: rows as they came in become its own. -/
namespace Go.Proofs.YtajcdhaaldhlaaaGreatDoor
open Go.RowKit Limbs Digs

theorem Tryz.infoRNum : (Tryz.prog.info? 85).map (fun i => (i.zero, i.size, i.bytes)) = some (some (.agg #[.int .i64 0, .slice none 0 0]), 2, 32) := by kernel_rfl
theorem Tryz.infoRRow : (Tryz.prog.info? 83).map (fun i => (i.zero, i.size, i.bytes)) = some (some (.slice none 0 0), 1, 24) := by kernel_rfl

end Go.Proofs.YtajcdhaaldhlaaaGreatDoor

/- A row of the reference's numbers of one's own, being made. -/
namespace Go.Proofs.YtajcdhaaldhlaaaGreatDoor
open Go.RowKit Limbs Digs

theorem NumR.nought (w : World) (n : Nat) : NumR w (.agg #[.int .i64 0, .slice none 0 0]) 0 n :=
 ⟨0, .slice none 0 0, [], rfl, ⟨none, 0, rfl, Nat.le_refl _, by simp, by intro i; simp, fun h => absurd h (by simp)⟩, .inl rfl, by simp, .inl ⟨rfl, rfl, rfl⟩, by simp⟩

structure RowO (w W : World) (P : Nat) (zs : List Int) (nb : Nat → Nat) : Prop where
 cells : ∀ i, i < zs.length → ∃ (s : Int) (o : Option Addr) (l c : Nat), W.cell? ⟨P, i * 2, none⟩ = some (.int .i64 s) ∧ W.cell? ⟨P, i * 2 + 1, none⟩ = some (.slice o l c) ∧ NumR W (.agg #[.int .i64 s, .slice o l c]) (zs.getD i 0) (nb i)
 low : w.heap.size ≤ P
 below : Below w.heap.size w W
 blk : ∃ cs, W.heap[P]? = some (.cells cs 85)

theorem RowO.lt {w W : World} {P : Nat} {zs : List Int} {nb : Nat → Nat} (h : RowO w W P zs nb) : P < W.heap.size := by
 obtain ⟨cs, e⟩ := h.blk
 exact heap_lt e

theorem RowO.later {w W W' : World} {P : Nat} {zs : List Int} {nb : Nat → Nat} (h : RowO w W P zs nb) (hb : Below W.heap.size W W') : RowO w W' P zs nb where
 cells := fun i hi => by
  obtain ⟨s, o, l, c, h1, h2, h3⟩ := h.cells i hi
  exact ⟨s, o, l, c, (hb.cell (p := ⟨P, i * 2, none⟩) h.lt).trans h1, (hb.cell (p := ⟨P, i * 2 + 1, none⟩) h.lt).trans h2, h3.below hb (Nat.le_refl _)⟩
 low := h.low
 below := h.below.trans (hb.mono h.below.size)
 blk := by obtain ⟨cs, e⟩ := h.blk; exact ⟨cs, (hb.block _ (heap_lt e)).trans e⟩

theorem RowO.drew {w W : World} {P : Nat} {zs : List Int} {nb : Nat → Nat} (h : RowO w W P zs nb) : RowO w W.drew P zs nb := ⟨h.cells, h.low, h.below.drew, h.blk⟩

theorem RowO.mono {w W : World} {P : Nat} {zs : List Int} {nb nb' : Nat → Nat} (h : RowO w W P zs nb) (hn : ∀ i, i < zs.length → nb i ≤ nb' i) : RowO w W P zs nb' where
 cells := fun i hi => by
  obtain ⟨s, o, l, c, h1, h2, h3⟩ := h.cells i hi
  exact ⟨s, o, l, c, h1, h2, h3.mono (hn i hi)⟩
 low := h.low
 below := h.below
 blk := h.blk

theorem RowO.thaw {w W : World} {P : Nat} {zs : List Int} {nb : Nat → Nat} (h : RowO w W P zs nb) (k : Nat) : W.frozen? ⟨P, k, none⟩ = false := by
 obtain ⟨cs, e⟩ := h.blk
 simp [World.frozen?, e]

theorem madeR_cell (m i : Nat) (hi : i < m) : (madeCells #[.int .i64 0, .slice none 0 0] (m * 2))[i * 2]? = some (.int .i64 0) ∧ (madeCells #[.int .i64 0, .slice none 0 0] (m * 2))[i * 2 + 1]? = some (.slice none 0 0) := by
 have h1 : i * 2 < m * 2 := by omega
 have h2 : i * 2 + 1 < m * 2 := by omega
 have e1 : i * 2 % 2 = 0 := by omega
 have e2 : (i * 2 + 1) % 2 = 1 := by omega
 constructor
 ·simp [madeCells, h1, e1]
 ·simp [madeCells, h2, e2]

theorem RowO.made (w W : World) (hb : Below w.heap.size w W) (m : Nat) (nb : Nat → Nat) : RowO w (W.alloc (.cells (madeCells #[.int .i64 0, .slice none 0 0] (m * 2)) 85)) W.heap.size (List.replicate m 0) nb where
 cells := fun i hi => by
  rw [List.length_replicate] at hi
  refine ⟨0, none, 0, 0, ?_, ?_, ?_⟩
  ·rw [World.cell?_alloc_new]; exact (madeR_cell m i hi).1
  ·rw [World.cell?_alloc_new]; exact (madeR_cell m i hi).2
  ·have e : (List.replicate m (0 : Int)).getD i 0 = 0 := by
    rw [List.getD_eq_getElem?_getD, List.getElem?_replicate]
    split <;> rfl
   rw [e]
   exact NumR.nought _ _
 low := hb.size
 below := hb.alloc hb.size _
 blk := ⟨_, heap_alloc_new W _⟩

theorem NumR.setTyped {w : World} {v : Value} {z : Int} {n : Nat} (h : NumR w v z n) {B : Nat} {c : Array Value} {t : TypeId} {fz : Nat × Nat} (hB : w.heap[B]? = some (.cells c t fz)) (ht : t ≠ 3) (k : Nat) (u : Value) : NumR (w.setCell ⟨B, k, none⟩ u) v z n := by
 obtain ⟨s, sl, ds, h1, h2, h3⟩ := h
 exact ⟨s, sl, ds, h1, h2.setCell hB ht k u, h3⟩

theorem RowO.set {w W : World} {P : Nat} {zs : List Int} {nb : Nat → Nat} (h : RowO w W P zs nb) {k : Nat} (hk : k < zs.length) {s : Int} {o : Option Addr} {l c : Nat} {z : Int} {m : Nat} (hz : NumR W (.agg #[.int .i64 s, .slice o l c]) z m) :
  RowO w ((W.setCell ⟨P, k * 2, none⟩ (.int .i64 s)).setCell ⟨P, k * 2 + 1, none⟩ (.slice o l c)) P (zs.set k z) (fun i => if i = k then m else nb i) := by
 obtain ⟨cs, hblk⟩ := h.blk
 have hblk' := heap_setCell_same W P (k * 2) _ _ (.int .i64 s) hblk
 obtain ⟨s0, o0, l0, c0, k0, k1, -⟩ := h.cells k hk
 have k1' : (W.setCell ⟨P, k * 2, none⟩ (.int .i64 s)).cell? ⟨P, k * 2 + 1, none⟩ = some (.slice o0 l0 c0) := (World.cell?_setCell_other (h := fun e => by simp at e) ..).trans k1
 have keep : ∀ {v : Value} {y : Int} {q : Nat}, NumR W v y q → NumR ((W.setCell ⟨P, k * 2, none⟩ (.int .i64 s)).setCell ⟨P, k * 2 + 1, none⟩ (.slice o l c)) v y q := fun hv =>
  (hv.setTyped hblk (by decide) _ _).setTyped hblk' (by decide) _ _
 have hlen : (zs.set k z).length = zs.length := List.length_set
 refine ⟨fun i hi => ?_, h.low, (h.below.setCell (by exact h.low) _).setCell (by exact h.low) _, ⟨_, heap_setCell_same _ P (k * 2 + 1) _ _ _ hblk'⟩⟩
 rw [hlen] at hi
 by_cases hik : i = k
 ·subst hik
  refine ⟨s, o, l, c, (World.cell?_setCell_other (h := fun e => by simp at e) ..).trans (World.cell?_setCell_same (h := k0) ..), World.cell?_setCell_same (h := k1') .., ?_⟩
  have e : (zs.set i z).getD i 0 = z := by rw [List.getD_eq_getElem?_getD, List.getElem?_set_self hi]; rfl
  rw [e, if_pos rfl]
  exact keep hz
 ·obtain ⟨s1, o1, l1, c1, m0, m1, m2⟩ := h.cells i hi
  refine ⟨s1, o1, l1, c1, ?_, ?_, ?_⟩
  ·exact ((World.cell?_setCell_other (h := fun e => by simp at e <;> omega) ..).trans (World.cell?_setCell_other (h := fun e => by simp at e <;> omega) ..)).trans m0
  ·exact ((World.cell?_setCell_other (h := fun e => by simp at e <;> omega) ..).trans (World.cell?_setCell_other (h := fun e => by simp at e <;> omega) ..)).trans m1
  ·have e : (zs.set k z).getD i 0 = zs.getD i 0 := by
    rw [List.getD_eq_getElem?_getD, List.getD_eq_getElem?_getD, List.getElem?_set_ne (by omega)]
   rw [e, if_neg hik]
   exact keep m2

theorem RowO.row {w W : World} {P : Nat} {zs : List Int} {nb : Nat → Nat} {n : Nat} (h : RowO w W P zs nb) (hn : ∀ i, i < zs.length → nb i ≤ n) : RowR W (.slice (some ⟨P, 0, none⟩) zs.length zs.length) zs n := by
 obtain ⟨cs, hblk⟩ := h.blk
 refine ⟨_, _, rfl, Nat.le_refl _, fun _ => ⟨P, cs, _, rfl, hblk, fun i hi => ?_⟩⟩
 obtain ⟨s, o, l, c, h1, h2, h3⟩ := h.cells i hi
 exact ⟨s, o, l, c, h1, h2, h3.mono (hn i hi)⟩

end Go.Proofs.YtajcdhaaldhlaaaGreatDoor

/- The one form, column by column, as the reference makes it. No Go in it. -/
namespace Go.Proofs.YtajcdhaaldhlaaaGreatDoor
open Go.RowKit Limbs

def upR (r : List Int) (c : Nat) : List Int := if r.getD c 0 < 0 then List.zipWith (fun a b => -1 * a + 0 * b) r r else r

def outN (R : Nat → Option (List Int)) : Nat → List (List Int)
 | 0 => []
 | c + 1 => match R c with
  | none => outN R c
  | some r => (outN R c).map (fun u => lowRow u (upR r c) c) ++ [upR r c]

theorem upR_eq (r : List Int) (c : Nat) : upR r c = r ∨ upR r c = r.map (-1 * ·) := by
 unfold upR
 split
 ·right
  exact map_one.symm
 ·exact .inl rfl

theorem upR_len (r : List Int) (c : Nat) : (upR r c).length = r.length := by
 rcases upR_eq r c with h | h <;> rw [h]
 exact List.length_map ..

theorem upR_zero {r : List Int} {c b : Nat} (h : r.getD b 0 = 0) : (upR r c).getD b 0 = 0 := by
 rcases upR_eq r c with e | e <;> rw [e]
 ·exact h
 ·rw [List.getD_eq_getElem?_getD, List.getElem?_map] at *
  cases e2 : r[b]? with
  | none => rfl
  | some x => rw [e2] at h; simp at h ⊢; exact h

theorem upR_pos {r : List Int} {c : Nat} (hc : c < r.length) (h : r.getD c 0 ≠ 0) : 0 < (upR r c).getD c 0 := by
 unfold upR
 split
 ·rw [zip_getD _ _ _ rfl c hc]; omega
 ·omega

theorem lowRow_len {u r : List Int} (h : u.length = r.length) (c : Nat) : (lowRow u r c).length = u.length := zip_len _ _ _ h

theorem lowRow_ahead {u r : List Int} (h : u.length = r.length) {c b : Nat} (hb : b < u.length) (hz : r.getD b 0 = 0) : (lowRow u r c).getD b 0 = u.getD b 0 := by
 unfold lowRow
 rw [zip_getD _ _ _ h b hb, hz]
 omega

theorem lowRow_at {u r : List Int} (h : u.length = r.length) {c : Nat} (hc : c < u.length) (hp : 0 < r.getD c 0) : 0 ≤ (lowRow u r c).getD c 0 ∧ (lowRow u r c).getD c 0 < r.getD c 0 := by
 unfold lowRow
 rw [zip_getD _ _ _ h c hc]
 generalize u.getD c 0 = a at *
 generalize r.getD c 0 = y at *
 have h1 := Int.emod_nonneg a (show y ≠ 0 by omega)
 have h2 := Int.emod_lt_of_pos a hp
 have h3 := Int.mul_ediv_add_emod a y
 rw [Int.one_mul, Int.neg_mul, Int.mul_comm]
 omega

theorem map_row {hs : List (List Int)} {f : List Int → List Int} {r : List Int} {k : Nat} (hk : k < hs.length) : (hs.map f ++ [r]).getD k [] = f hs[k] := by
 rw [List.getD_eq_getElem?_getD, List.getElem?_append_left (by simpa using hk), List.getElem?_map, List.getElem?_eq_getElem hk]
 rfl

theorem last_row {hs : List (List Int)} {f : List Int → List Int} {r : List Int} : (hs.map f ++ [r]).getD hs.length [] = r := by
 rw [List.getD_eq_getElem?_getD, List.getElem?_append_right (by simp)]
 simp

theorem form_step {n c : Nat} {hs : List (List Int)} {p : Nat → Nat} {r : List Int} (h : FormL n hs p) (hlt : ∀ k, k < hs.length → p k < c) (hc : c < n) (hr : r.length = n) (hz : ∀ b, b < c → r.getD b 0 = 0) (hp : 0 < r.getD c 0) :
  ∃ p', FormL n (hs.map (fun u => lowRow u r c) ++ [r]) p' ∧ ∀ k, k < (hs.map (fun u => lowRow u r c) ++ [r]).length → p' k < c + 1 := by
 have hlen : ∀ k (hk : k < hs.length), hs[k].length = r.length := fun k hk => (h.len _ (List.getElem_mem hk)).trans hr.symm
 have hL : (hs.map (fun u => lowRow u r c) ++ [r]).length = hs.length + 1 := by simp
 have ahead : ∀ k (hk : k < hs.length) b, b < c → ((hs.map (fun u => lowRow u r c) ++ [r]).getD k []).getD b 0 = (hs.getD k []).getD b 0 := fun k hk b hb => by
  rw [map_row hk, getD_row hk]
  exact lowRow_ahead (hlen k hk) (by rw [hlen k hk, hr]; omega) (hz b hb)
 refine ⟨fun k => if k = hs.length then c else p k, ⟨fun u hu => ?_, ⟨fun i k hik hk => ?_, fun i hi => ?_, fun i b hi hb => ?_, fun i hi => ?_, fun i k hik hk => ?_⟩⟩, fun k hk => ?_⟩
 ·rcases List.mem_append.1 hu with h1 | h1
  ·obtain ⟨x, hx, rfl⟩ := List.mem_map.1 h1
   have := h.len x hx
   rw [lowRow_len (by omega)]; exact this
  ·rw [List.mem_singleton] at h1; rw [h1]; exact hr
 ·try dsimp only
  rw [hL] at hk
  rw [if_neg (show i ≠ hs.length by omega)]
  by_cases e : k = hs.length
  ·rw [if_pos e]; exact hlt i (by omega)
  ·rw [if_neg e]; exact h.form.inc i k hik (by omega)
 ·try dsimp only
  rw [hL] at hi
  by_cases e : i = hs.length
  ·rw [if_pos e]; exact hc
  ·rw [if_neg e]; exact h.form.lt i (by omega)
 ·try dsimp only at hb ⊢
  rw [hL] at hi
  by_cases e : i = hs.length
  ·rw [if_pos e] at hb
   rw [e, last_row]; exact hz b hb
  ·rw [if_neg e] at hb
   have h1 := hlt i (by omega)
   rw [ahead i (by omega) b (by omega)]
   exact h.form.zero i b (by omega) hb
 ·try dsimp only
  rw [hL] at hi
  by_cases e : i = hs.length
  ·rw [if_pos e, e, last_row]; exact hp
  ·rw [if_neg e, ahead i (by omega) _ (hlt i (by omega))]
   exact h.form.pos i (by omega)
 ·try dsimp only
  rw [hL] at hk
  by_cases e : k = hs.length
  ·rw [if_pos e, e, last_row, map_row (show i < hs.length by omega)]
   exact lowRow_at (hlen i (by omega)) (by rw [hlen i (by omega), hr]; exact hc) hp
  ·rw [if_neg e, ahead i (by omega) _ (hlt k (by omega)), ahead k (by omega) _ (hlt k (by omega))]
   exact h.form.red i k hik (by omega)
 ·try dsimp only
  rw [hL] at hk
  by_cases e : k = hs.length
  ·rw [if_pos e]; omega
  ·rw [if_neg e]; have := hlt k (by omega); omega

def NZ (R : Nat → Option (List Int)) : Prop := ∀ i r, R i = some r → r.getD i 0 ≠ 0

theorem outN_form {R : Nat → Option (List Int)} {n : Nat} (hE : Ech R n n) (hN : NZ R) (c : Nat) (hc : c ≤ n) : ∃ p, FormL n (outN R c) p ∧ ∀ k, k < (outN R c).length → p k < c := by
 induction c with
 | zero => exact ⟨fun _ => 0, ⟨fun r hr => (by cases hr), ⟨fun i k _ hk => absurd hk (by simp [outN]), fun i hi => absurd hi (by simp [outN]), fun i b hi => absurd hi (by simp [outN]), fun i hi => absurd hi (by simp [outN]), fun i k _ hk => absurd hk (by simp [outN])⟩⟩, fun k hk => absurd hk (by simp [outN])⟩
 | succ c ih =>
  obtain ⟨p, h1, h2⟩ := ih (by omega)
  unfold outN
  cases e : R c with
  | none => exact ⟨p, h1, fun k hk => Nat.lt_succ_of_lt (h2 k hk)⟩
  | some r =>
   have hl := hE.len c r e
   exact form_step h1 h2 (by omega) ((upR_len r c).trans hl) (fun b hb => upR_zero (hE.zero c r e b hb)) (upR_pos (by omega) (hN c r e))

theorem outN_lens {R : Nat → Option (List Int)} {n : Nat} (hE : Ech R n n) (c : Nat) : ∀ u ∈ outN R c, u.length = n := by
 induction c with
 | zero => exact fun u hu => by cases hu
 | succ c ih =>
  unfold outN
  cases e : R c with
  | none => exact ih
  | some r =>
   have hl := (upR_len r c).trans (hE.len c r e)
   intro u hu
   rcases List.mem_append.1 hu with h | h
   ·obtain ⟨x, hx, rfl⟩ := List.mem_map.1 h
    have := ih x hx
    rw [lowRow_len (by omega)]
    exact this
   ·rw [List.mem_singleton] at h
    rw [h]
    exact hl

def RowsTo (R : Nat → Option (List Int)) (c : Nat) : List Int → Prop := fun v => ∃ i, i < c ∧ R i = some v

theorem scale_id {n : Nat} {S : List Int → Prop} {r : List Int} {c : Nat} (h : Gens n S r) : Gens n S (upR r c) := by
 rcases upR_eq r c with e | e <;> rw [e]
 ·exact h
 ·rw [map_one]; exact .comb _ _ h h

theorem scale_back {n : Nat} {S : List Int → Prop} {r : List Int} {c : Nat} (h : Gens n S (upR r c)) : Gens n S r := by
 rcases upR_eq r c with e | e <;> rw [e] at h
 ·exact h
 ·have := Gens.comb (-1) 0 h h
  rw [← map_one, List.map_map] at this
  have e2 : ((fun x : Int => -1 * x) ∘ fun x => -1 * x) = id := by funext x; simp
  rwa [e2, List.map_id] at this

theorem outN_alike {R : Nat → Option (List Int)} {n : Nat} (hE : Ech R n n) (c : Nat) : Alikes n (InL (outN R c)) (RowsTo R c) := by
 induction c with
 | zero => exact .of (fun v hv _ => by cases hv) (fun v hv _ => by obtain ⟨i, hi, -⟩ := hv; omega)
 | succ c ih =>
  have up : ∀ v, RowsTo R c v → RowsTo R (c + 1) v := fun v ⟨i, hi, e⟩ => ⟨i, by omega, e⟩
  unfold outN
  cases e : R c with
  | none =>
   refine ih.trans (.of (fun v hv hvl => .base (up v hv) hvl) (fun v hv hvl => ?_))
   obtain ⟨i, hi, e'⟩ := hv
   exact .base ⟨i, by
    by_cases h : i = c
    ·rw [h, e] at e'; cases e'
    ·omega, e'⟩ hvl
  | some r =>
   have hl := hE.len c r e
   have gr : Gens n (RowsTo R (c + 1)) r := .base ⟨c, by omega, e⟩ hl
   refine .of (fun v hv hvl => ?_) (fun v hv hvl => ?_)
   ·rcases List.mem_append.1 hv with h | h
    ·obtain ⟨u, hu, rfl⟩ := List.mem_map.1 h
     have hul : u.length = n := outN_lens hE c u hu
     have gu : Gens n (RowsTo R (c + 1)) u := ((ih u).1 (.base hu hul)).trans fun x hx hxl => .base (up x hx) hxl
     exact gu.low (scale_id gr) c
    ·rw [List.mem_singleton] at h
     rw [h]
     exact scale_id gr
   ·have gp : Gens n (InL ((outN R c).map (fun u => lowRow u (upR r c) c) ++ [upR r c])) (upR r c) := .base (List.mem_append_right _ (List.mem_singleton.2 rfl)) ((upR_len r c).trans hl)
    obtain ⟨i, hi, e'⟩ := hv
    by_cases h : i = c
    ·rw [h, e] at e'
     obtain rfl := Option.some.inj e'
     exact scale_back gp
    ·have g1 := (ih v).2 (.base ⟨i, by omega, e'⟩ hvl)
     refine g1.trans fun u hu hul => ?_
     refine Gens.unlow (k := c) (hul.trans ((upR_len r c).trans hl).symm) (.base (List.mem_append_left _ (List.mem_map.2 ⟨u, hu, rfl⟩)) ?_) gp
     rw [lowRow_len (hul.trans ((upR_len r c).trans hl).symm)]
     exact hul

theorem outN_all {R : Nat → Option (List Int)} {n : Nat} (hE : Ech R n n) : Alikes n (InL (outN R n)) (RowsOf R) :=
 (outN_alike hE n).trans (.of (fun v hv hvl => by obtain ⟨i, -, e⟩ := hv; exact .base ⟨i, e⟩ hvl) (fun v hv hvl => by obtain ⟨i, e⟩ := hv; exact .base ⟨i, hE.lt i v e, e⟩ hvl))

theorem outN_len (R : Nat → Option (List Int)) (c : Nat) : (outN R c).length ≤ c := by
 induction c with
 | zero => exact Nat.le_refl _
 | succ c ih =>
  unfold outN
  split
  ·omega
  ·simp; omega

end Go.Proofs.YtajcdhaaldhlaaaGreatDoor
