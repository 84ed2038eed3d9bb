/- The reference's rows: numbers in a row, and rows of these, that grow at their end. -/
import Derived.Test.YtdedolkgcdlmeaaGreatDoorMats
import Derived.Test.YtdedolkgcdlmeaaGreatDoorRefJ
import Derived.OwnWalk
namespace Go.Proofs.YtdedolkgcdlmeaaGreatDoor
open Go.RowKit Limbs Digs

/-- That block holds no numbers of the kind that digits are. -/
def Typed (W : World) (row : Option Nat) (ts : List TypeId) : Prop := ∀ g, row = some g → ∃ cur t fz, W.heap[g]? = some (.cells cur t fz) ∧ t ∉ ts

theorem Typed.none (W : World) (ts : List TypeId) : Typed W none ts := fun _ h => by cases h

theorem Dig.grown {W W' : World} {row : Option Nat} {v : Value} {ds : List Int} (h : Dig W v ds) (hg : W.grownBy W' row) (hr : Typed W row [3]) : Dig W' v ds := by
  obtain ⟨ao, cap, hv, h1, h2, h3, h4⟩ := h
  refine ⟨ao, cap, hv, h1, h2, h3, fun h0 => ?_⟩
  obtain ⟨b, off, cur, fz, e, hb, hc⟩ := h4 h0
  have hne : some b ≠ row := fun e => by
    obtain ⟨cur', t, fz', h5, h6⟩ := hr b e.symm
    rw [hb] at h5
    simp only [Option.some.injEq, Obj.cells.injEq] at h5
    exact h6 (by rw [← h5.2.1]; exact List.mem_singleton.2 rfl)
  exact ⟨b, off, cur, fz, e, (hg.block b (heap_lt hb) hne).trans hb, fun i hi => hg.cell (hc i hi) hne⟩

theorem NumR.grown {W W' : World} {row : Option Nat} {v : Value} {z : Int} {n : Nat} (h : NumR W v z n) (hg : W.grownBy W' row) (hr : Typed W row [3]) : NumR W' v z n := by
  obtain ⟨s, sl, ds, h1, h2, h3⟩ := h
  exact ⟨s, sl, ds, h1, h2.grown hg hr, h3⟩

structure Rn where
  s : Int
  o : Option Addr
  l : Nat
  c : Nat

def Rn.val (r : Rn) : Value := .agg #[.int .i64 r.s, .slice r.o r.l r.c]
def rcells (p : Rn × Int) : List Value := [.int .i64 p.1.s, .slice p.1.o p.1.l p.1.c]

/-- A row of the reference's numbers. -/
def RowR (W : World) (v : Value) (zs : List Int) (n : Nat) : Prop :=
  ∃ ao cap, v = .slice ao zs.length cap ∧ zs.length ≤ cap ∧ (0 < zs.length → ∃ b cur fz, ao = some ⟨b, 0, none⟩ ∧ W.heap[b]? = some (.cells cur 40 fz) ∧
    ∀ i, i < zs.length → ∃ (s : Int) (o : Option Addr) (l c : Nat), W.cell? ⟨b, i * 2, none⟩ = some (.int .i64 s) ∧ W.cell? ⟨b, i * 2 + 1, none⟩ = some (.slice o l c) ∧ NumR W (.agg #[.int .i64 s, .slice o l c]) (zs.getD i 0) n)

theorem RowR.below {B : Nat} {W W' : World} {v : Value} {zs : List Int} {n : Nat} (h : RowR W v zs n) (hb : Below B W W') (hB : W.heap.size ≤ B) : RowR W' v zs n := by
  obtain ⟨ao, cap, hv, h1, h2⟩ := h
  refine ⟨ao, cap, hv, h1, fun h0 => ?_⟩
  obtain ⟨b, cur, fz, e, hh, hc⟩ := h2 h0
  have hlt := heap_lt hh
  refine ⟨b, cur, fz, e, (hb.block _ (by omega)).trans hh, fun i hi => ?_⟩
  obtain ⟨s, o, l, c, h3, h4, h5⟩ := hc i hi
  exact ⟨s, o, l, c, (hb.cell (p := ⟨b, i * 2, none⟩) (by show b < B; omega)).trans h3, (hb.cell (p := ⟨b, i * 2 + 1, none⟩) (by show b < B; omega)).trans h4, h5.below hb hB⟩

theorem RowR.grown {W W' : World} {row : Option Nat} {v : Value} {zs : List Int} {n : Nat} (h : RowR W v zs n) (hg : W.grownBy W' row) (hr : Typed W row [3, 40]) : RowR W' v zs n := by
  obtain ⟨ao, cap, hv, h1, h2⟩ := h
  refine ⟨ao, cap, hv, h1, fun h0 => ?_⟩
  obtain ⟨b, cur, fz, e, hh, hc⟩ := h2 h0
  have hr' : Typed W row [3] := fun g hg => by
    obtain ⟨cur', t, fz', h5, h6⟩ := hr g hg
    exact ⟨cur', t, fz', h5, fun h => h6 (by rw [List.mem_singleton] at h; rw [h]; exact List.mem_cons_self)⟩
  have hne : some b ≠ row := fun e => by
    obtain ⟨cur', t, fz', h5, h6⟩ := hr b e.symm
    rw [hh] at h5
    simp only [Option.some.injEq, Obj.cells.injEq] at h5
    exact h6 (by rw [← h5.2.1]; exact List.mem_cons_of_mem _ (List.mem_singleton.2 rfl))
  refine ⟨b, cur, fz, e, (hg.block b (heap_lt hh) hne).trans hh, fun i hi => ?_⟩
  obtain ⟨s, o, l, c, h3, h4, h5⟩ := hc i hi
  exact ⟨s, o, l, c, hg.cell h3 hne, hg.cell h4 hne, h5.grown hg hr'⟩

theorem RowR.at {W : World} {v : Value} {zs : List Int} {n : Nat} (h : RowR W v zs n) (i : Nat) (hi : i < zs.length) : ∃ b cap, v = .slice (some ⟨b, 0, none⟩) zs.length cap ∧ b < W.heap.size ∧ ∃ (s : Int) (o : Option Addr) (l c : Nat), W.cell? ⟨b, i * 2, none⟩ = some (.int .i64 s) ∧ W.cell? ⟨b, i * 2 + 1, none⟩ = some (.slice o l c) ∧ NumR W (.agg #[.int .i64 s, .slice o l c]) (zs.getD i 0) n := by
  obtain ⟨ao, cap, rfl, -, h2⟩ := h
  obtain ⟨b, cur, fz, rfl, hh, hc⟩ := h2 (by omega)
  exact ⟨b, cap, rfl, heap_lt hh, hc i hi⟩

/-- One that grows. -/
def GrowR (W : World) (base : Nat) (v : Value) (ps : List (Rn × Int)) (n : Nat) : Prop :=
  W.ownsRow base 40 2 v ps.length (ps.flatMap rcells) ∧ ∀ p ∈ ps, NumR W p.1.val p.2 n

theorem GrowR.nil (W : World) (base n : Nat) : GrowR W base (.slice none 0 0) [] n := ⟨World.ownsRow_nil _ _ _ _, fun _ h => by cases h⟩

theorem ownsRow_typed {W : World} {base : Nat} {e : TypeId} {size : Nat} {v : Value} {n : Nat} {xs : List Value} {ts : List TypeId} (h : W.ownsRow base e size v n xs) (he : e ∉ ts) : Typed W v.ownBlock ts := fun g hg => by
  rcases h.2 with ⟨rfl, -⟩ | ⟨g', cap, cur, rfl, hbg, hh, -⟩
  · cases hg
  · simp only [Value.ownBlock, Option.some.injEq] at hg
    rw [← hg]
    exact ⟨cur, e, _, hh, he⟩

theorem GrowR.later {W W' : World} {base : Nat} {v : Value} {ps : List (Rn × Int)} {n : Nat} (h : GrowR W base v ps n) (hb : Below W.heap.size W W') : GrowR W' base v ps n :=
  ⟨ownsRow_later h.1 hb, fun p hp => (h.2 p hp).below hb (Nat.le_refl _)⟩

theorem Typed.alloc {W : World} {row : Option Nat} {ts : List TypeId} (h : Typed W row ts) (ob : Obj) : Typed (W.alloc ob) row ts := fun g hg => by
  obtain ⟨cur, t, fz, h1, h2⟩ := h g hg
  exact ⟨cur, t, fz, (((Below.refl W.heap.size W).alloc (Nat.le_refl _) ob).block _ (heap_lt h1)).trans h1, h2⟩

theorem growR_snoc {base : Nat} {wr w3 : World} {v : Value} {ps : List (Rn × Int)} {n : Nat} {r : Rn} {z : Int} {g cap : Nat} {ob : Obj} (h : GrowR wr base v ps n) (hz : NumR wr r.val z n)
    (hown : w3.ownsRow base 40 2 (.slice (some ⟨g, 0, none⟩) (ps.length + 1) cap) (ps.length + 1) (ps.flatMap rcells ++ rcells (r, z)))
    (hg : (wr.alloc ob).grownBy w3 v.ownBlock) : GrowR w3 base (.slice (some ⟨g, 0, none⟩) (ps.length + 1) cap) (ps ++ [(r, z)]) n := by
  have hty : Typed (wr.alloc ob) v.ownBlock [3] := (ownsRow_typed h.1 (by decide)).alloc ob
  refine ⟨by rw [List.length_append, List.length_singleton, List.flatMap_append, List.flatMap_singleton]; exact hown, fun p hp => ?_⟩
  rcases List.mem_append.1 hp with h' | h'
  · exact ((h.2 p h').below ((Below.refl _ _).alloc (Nat.le_refl _) ob) (Nat.le_refl _)).grown hg hty
  · rw [List.mem_singleton] at h'
    rw [h']
    exact (hz.below ((Below.refl _ _).alloc (Nat.le_refl _) ob) (Nat.le_refl _)).grown hg hty

theorem rcells_at (ps : List (Rn × Int)) : ∀ i (h : i < ps.length), (ps.flatMap rcells)[i * 2]? = some (.int .i64 ps[i].1.s) ∧ (ps.flatMap rcells)[i * 2 + 1]? = some (.slice ps[i].1.o ps[i].1.l ps[i].1.c) := by
  induction ps with
  | nil => intro i h; exact absurd h (by simp)
  | cons p ps ih =>
    intro i h
    rw [List.flatMap_cons]
    cases i with
    | zero => exact ⟨rfl, rfl⟩
    | succ i =>
      obtain ⟨h1, h2⟩ := ih i (by simpa using h)
      have e1 : (i + 1) * 2 = i * 2 + 2 := by omega
      rw [e1, show i * 2 + 2 + 1 = i * 2 + 1 + 2 by omega, List.getElem?_append_right (by simp [rcells]), List.getElem?_append_right (by simp [rcells])]
      exact ⟨h1, h2⟩

theorem GrowR.row {W : World} {base : Nat} {v : Value} {ps : List (Rn × Int)} {n : Nat} (h : GrowR W base v ps n) : RowR W v (ps.map (·.2)) n := by
  obtain ⟨⟨-, h1⟩, h2⟩ := h
  have hlen : (ps.map (·.2)).length = ps.length := List.length_map ..
  rcases h1 with ⟨rfl, hn⟩ | ⟨g, cap, cur, rfl, hb, hh, hc1, hc2, hc3, hc4⟩
  · exact ⟨none, 0, by rw [hlen, hn], by rw [hlen]; omega, fun h0 => absurd h0 (by rw [hlen]; omega)⟩
  · refine ⟨_, cap, by rw [hlen], by rw [hlen]; exact hc1, fun h0 => ⟨g, cur, _, rfl, hh, fun i hi => ?_⟩⟩
    rw [hlen] at hi
    obtain ⟨e1, e2⟩ := rcells_at ps i hi
    have hcell : ∀ k u, k < ps.length * 2 → (ps.flatMap rcells)[k]? = some u → W.cell? ⟨g, k, none⟩ = some u := fun k u hk hu => by
      have := World.news_of_block hh k u (by rw [← hc4, List.getElem?_take, if_pos hk] at hu; exact hu)
      have e : (⟨g, 0, none⟩ : Addr).add k = ⟨g, k, none⟩ := by unfold Addr.add; split <;> simp_all
      rwa [e] at this
    refine ⟨ps[i].1.s, ps[i].1.o, ps[i].1.l, ps[i].1.c, hcell _ _ (by omega) e1, hcell _ _ (by omega) e2, ?_⟩
    have e3 : (ps.map (·.2)).getD i 0 = ps[i].2 := by
      rw [List.getD_eq_getElem?_getD, List.getElem?_map, List.getElem?_eq_getElem hi]; rfl
    rw [e3]
    exact h2 _ (List.getElem_mem hi)

/-- Rows of the reference's numbers. -/
def MatR (W : World) (v : Value) (zss : List (List Int)) (n : Nat) : Prop :=
  ∃ ao cap, v = .slice ao zss.length cap ∧ zss.length ≤ cap ∧ (0 < zss.length → ∃ b, ao = some ⟨b, 0, none⟩ ∧ b < W.heap.size ∧ ∀ i zs, zss[i]? = some zs → ∃ u, W.cell? ⟨b, i, none⟩ = some u ∧ RowR W u zs n)

theorem MatR.below {B : Nat} {w w' : World} {v : Value} {zss : List (List Int)} {n : Nat} (h : MatR w v zss n) (hb : Below B w w') (hB : w.heap.size ≤ B) : MatR w' v zss n := by
  obtain ⟨ao, cap, hv, h1, h2⟩ := h
  refine ⟨ao, cap, hv, h1, fun h0 => ?_⟩
  obtain ⟨b, e, hlt, hc⟩ := h2 h0
  refine ⟨b, e, Nat.lt_of_lt_of_le hlt hb.size, fun i zs hi => ?_⟩
  obtain ⟨u, h3, h4⟩ := hc i zs hi
  exact ⟨u, (hb.cell (p := ⟨b, i, none⟩) (Nat.lt_of_lt_of_le hlt hB)).trans h3, h4.below hb hB⟩

/-- Rows that grow. -/
def GrowM (W : World) (base : Nat) (v : Value) (qs : List (Value × List Int)) (n : Nat) : Prop :=
  W.ownsRow base 106 1 v qs.length (qs.map (·.1)) ∧ ∀ q ∈ qs, RowR W q.1 q.2 n

theorem GrowM.later {W W' : World} {base : Nat} {v : Value} {qs : List (Value × List Int)} {n : Nat} (h : GrowM W base v qs n) (hb : Below W.heap.size W W') : GrowM W' base v qs n :=
  ⟨ownsRow_later h.1 hb, fun p hp => (h.2 p hp).below hb (Nat.le_refl _)⟩

theorem growM_snoc {base : Nat} {wr w3 : World} {v : Value} {qs : List (Value × List Int)} {n : Nat} {u : Value} {zs : List Int} {g cap : Nat} {ob : Obj} (h : GrowM wr base v qs n) (hz : RowR wr u zs n)
    (hown : w3.ownsRow base 106 1 (.slice (some ⟨g, 0, none⟩) (qs.length + 1) cap) (qs.length + 1) (qs.map (·.1) ++ [u]))
    (hg : (wr.alloc ob).grownBy w3 v.ownBlock) : GrowM w3 base (.slice (some ⟨g, 0, none⟩) (qs.length + 1) cap) (qs ++ [(u, zs)]) n := by
  have hty : Typed (wr.alloc ob) v.ownBlock [3, 40] := (ownsRow_typed h.1 (by decide)).alloc ob
  refine ⟨by rw [List.length_append, List.length_singleton, List.map_append]; exact hown, fun p hp => ?_⟩
  rcases List.mem_append.1 hp with h' | h'
  · exact ((h.2 p h').below ((Below.refl _ _).alloc (Nat.le_refl _) ob) (Nat.le_refl _)).grown hg hty
  · rw [List.mem_singleton] at h'
    rw [h']
    exact (hz.below ((Below.refl _ _).alloc (Nat.le_refl _) ob) (Nat.le_refl _)).grown hg hty

theorem GrowM.mat {W : World} {base : Nat} {v : Value} {qs : List (Value × List Int)} {n : Nat} (h : GrowM W base v qs n) : MatR W v (qs.map (·.2)) n := by
  obtain ⟨⟨-, h1⟩, h2⟩ := h
  have hlen : (qs.map (·.2)).length = qs.length := List.length_map ..
  rcases h1 with ⟨rfl, hn⟩ | ⟨g, cap, cur, rfl, hb, hh, hc1, hc2, hc3, hc4⟩
  · exact ⟨none, 0, by rw [hlen, hn], by rw [hlen]; omega, fun h0 => absurd h0 (by rw [hlen]; omega)⟩
  · refine ⟨_, cap, by rw [hlen], by rw [hlen]; exact hc1, fun h0 => ⟨g, rfl, heap_lt hh, fun i zs hi => ?_⟩⟩
    obtain ⟨hi', e⟩ := List.getElem?_eq_some_iff.1 hi
    rw [hlen] at hi'
    have e' : zs = qs[i].2 := by rw [← e, List.getElem_map]
    have := World.news_of_block hh i qs[i].1 (by
      have e : (qs.map (·.1))[i]? = some qs[i].1 := by rw [List.getElem?_map, List.getElem?_eq_getElem hi']; rfl
      rw [← hc4, List.getElem?_take, if_pos (by omega)] at e
      exact e)
    have ea : (⟨g, 0, none⟩ : Addr).add i = ⟨g, i, none⟩ := by unfold Addr.add; split <;> simp_all
    rw [ea] at this
    exact ⟨_, this, by rw [e']; exact h2 _ (List.getElem_mem hi')⟩

end Go.Proofs.YtdedolkgcdlmeaaGreatDoor
