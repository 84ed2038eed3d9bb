/- The reference's rows, from a place on; Behind. -/
import Derived.Test.YtdedolkgcdlmeaaGreatDoorHermR
import Derived.Test.YtdedolkgcdlmeaaGreatDoorKerL
import Derived.Test.YtdedolkgcdlmeaaGreatDoorGKA

namespace Go.Proofs.YtdedolkgcdlmeaaGreatDoor
open Go.RowKit Limbs Digs

/-- A row of the reference's numbers, from a place on. -/
def RowQ (W : World) (v : Value) (zs : List Int) (n : Nat) : Prop :=
  ∃ ao cap, v = .slice ao zs.length cap ∧ zs.length ≤ cap ∧ (0 < zs.length → ∃ b off cur fz, ao = some ⟨b, off, none⟩ ∧ W.heap[b]? = some (.cells cur 40 fz) ∧
    ∀ i, i < zs.length → ∃ (s : Int) (o : Option Addr) (l c : Nat), W.cell? ⟨b, off + i * 2, none⟩ = some (.int .i64 s) ∧ W.cell? ⟨b, off + i * 2 + 1, none⟩ = some (.slice o l c) ∧ NumR W (.agg #[.int .i64 s, .slice o l c]) (zs.getD i 0) n)

theorem RowQ.below {B : Nat} {W W' : World} {v : Value} {zs : List Int} {n : Nat} (h : RowQ W v zs n) (hb : Below B W W') (hB : W.heap.size ≤ B) : RowQ W' v zs n := by
  obtain ⟨ao, cap, hv, h1, h2⟩ := h
  refine ⟨ao, cap, hv, h1, fun h0 => ?_⟩
  obtain ⟨b, off, cur, fz, e, hh, hc⟩ := h2 h0
  have hlt := heap_lt hh
  refine ⟨b, off, cur, fz, e, (hb.block _ (by omega)).trans hh, fun i hi => ?_⟩
  obtain ⟨s, o, l, c, h3, h4, h5⟩ := hc i hi
  exact ⟨s, o, l, c, (hb.cell (p := ⟨b, off + i * 2, none⟩) (by show b < B; omega)).trans h3, (hb.cell (p := ⟨b, off + i * 2 + 1, none⟩) (by show b < B; omega)).trans h4, h5.below hb hB⟩

theorem RowQ.grown {W W' : World} {row : Option Nat} {v : Value} {zs : List Int} {n : Nat} (h : RowQ W v zs n) (hg : W.grownBy W' row) (hr : Typed W row [3, 40]) : RowQ W' v zs n := by
  obtain ⟨ao, cap, hv, h1, h2⟩ := h
  refine ⟨ao, cap, hv, h1, fun h0 => ?_⟩
  obtain ⟨b, off, cur, fz, e, hh, hc⟩ := h2 h0
  have hr' : Typed W row [3] := fun g hg => by
    obtain ⟨cur', t, fz', h5, h6⟩ := hr g hg
    exact ⟨cur', t, fz', h5, fun h => h6 (by rw [List.mem_singleton] at h; rw [h]; exact List.mem_cons_self)⟩
  have hne : some b ≠ row := fun e => by
    obtain ⟨cur', t, fz', h5, h6⟩ := hr b e.symm
    rw [hh] at h5
    simp only [Option.some.injEq, Obj.cells.injEq] at h5
    exact h6 (by rw [← h5.2.1]; exact List.mem_cons_of_mem _ (List.mem_singleton.2 rfl))
  refine ⟨b, off, cur, fz, e, (hg.block b (heap_lt hh) hne).trans hh, fun i hi => ?_⟩
  obtain ⟨s, o, l, c, h3, h4, h5⟩ := hc i hi
  exact ⟨s, o, l, c, hg.cell h3 hne, hg.cell h4 hne, h5.grown hg hr'⟩

theorem RowQ.at {W : World} {v : Value} {zs : List Int} {n : Nat} (h : RowQ W v zs n) (i : Nat) (hi : i < zs.length) : ∃ b off cap, v = .slice (some ⟨b, off, none⟩) zs.length cap ∧ b < W.heap.size ∧ ∃ (s : Int) (o : Option Addr) (l c : Nat), W.cell? ⟨b, off + i * 2, none⟩ = some (.int .i64 s) ∧ W.cell? ⟨b, off + i * 2 + 1, none⟩ = some (.slice o l c) ∧ NumR W (.agg #[.int .i64 s, .slice o l c]) (zs.getD i 0) n := by
  obtain ⟨ao, cap, rfl, -, h2⟩ := h
  obtain ⟨b, off, cur, fz, rfl, hh, hc⟩ := h2 (by omega)
  exact ⟨b, off, cap, rfl, heap_lt hh, hc i hi⟩

theorem RowQ.fits {w : World} {v : Value} {zs : List Int} {n m : Nat} (h : RowQ w v zs n) (hz : ∀ j, j < zs.length → -dp m < zs.getD j 0 ∧ zs.getD j 0 < dp m) : RowQ w v zs m := by
  obtain ⟨ao, cap, hv, h3, h4⟩ := h
  refine ⟨ao, cap, hv, h3, fun h0 => ?_⟩
  obtain ⟨b, off, cur, fz', e, hh, hc⟩ := h4 h0
  refine ⟨b, off, cur, fz', e, hh, fun i hi => ?_⟩
  obtain ⟨s, o, l, c', h5, h6, h7⟩ := hc i hi
  exact ⟨s, o, l, c', h5, h6, h7.fits (hz i hi).1 (hz i hi).2⟩

/-- Rows of such. -/
def MatQ (W : World) (v : Value) (zss : List (List Int)) (n : Nat) : Prop :=
  ∃ ao cap, v = .slice ao zss.length cap ∧ zss.length ≤ cap ∧ (0 < zss.length → ∃ b, ao = some ⟨b, 0, none⟩ ∧ b < W.heap.size ∧ ∀ i zs, zss[i]? = some zs → ∃ u, W.cell? ⟨b, i, none⟩ = some u ∧ RowQ W u zs n)

theorem MatQ.below {B : Nat} {w w' : World} {v : Value} {zss : List (List Int)} {n : Nat} (h : MatQ w v zss n) (hb : Below B w w') (hB : w.heap.size ≤ B) : MatQ w' v zss n := by
  obtain ⟨ao, cap, hv, h1, h2⟩ := h
  refine ⟨ao, cap, hv, h1, fun h0 => ?_⟩
  obtain ⟨b, e, hlt, hc⟩ := h2 h0
  refine ⟨b, e, Nat.lt_of_lt_of_le hlt hb.size, fun i zs hi => ?_⟩
  obtain ⟨u, h3, h4⟩ := hc i zs hi
  exact ⟨u, (hb.cell (p := ⟨b, i, none⟩) (Nat.lt_of_lt_of_le hlt hB)).trans h3, h4.below hb hB⟩

theorem MatQ.fits {w : World} {v : Value} {zss : List (List Int)} {n m : Nat} (h : MatQ w v zss n) (hz : ∀ zs ∈ zss, ∀ j, j < zs.length → -dp m < zs.getD j 0 ∧ zs.getD j 0 < dp m) : MatQ w v zss m := by
  obtain ⟨ao, cap, hv, h3, h4⟩ := h
  refine ⟨ao, cap, hv, h3, fun h0 => ?_⟩
  obtain ⟨b, e, hlt, hc⟩ := h4 h0
  refine ⟨b, e, hlt, fun i zs hi => ?_⟩
  obtain ⟨u, h5, h6⟩ := hc i zs hi
  exact ⟨u, h5, h6.fits (hz zs (List.mem_of_getElem? hi))⟩

/-- Rows that grow. -/
def GrowQ (W : World) (base : Nat) (v : Value) (qs : List (Value × List Int)) (n : Nat) : Prop :=
  W.ownsRow base 106 1 v qs.length (qs.map (·.1)) ∧ ∀ q ∈ qs, RowQ W q.1 q.2 n

theorem GrowQ.later {W W' : World} {base : Nat} {v : Value} {qs : List (Value × List Int)} {n : Nat} (h : GrowQ W base v qs n) (hb : Below W.heap.size W W') : GrowQ W' base v qs n :=
  ⟨ownsRow_later h.1 hb, fun p hp => (h.2 p hp).below hb (Nat.le_refl _)⟩

theorem GrowQ.mat {W : World} {base : Nat} {v : Value} {qs : List (Value × List Int)} {n : Nat} (h : GrowQ W base v qs n) : MatQ W v (qs.map (·.2)) n := by
  obtain ⟨⟨-, h1⟩, h2⟩ := h
  have hlen : (qs.map (·.2)).length = qs.length := List.length_map ..
  rcases h1 with ⟨rfl, hn⟩ | ⟨g, cap, cur, rfl, hb, hh, hc1, hc2, hc3, hc4⟩
  · exact ⟨none, 0, by rw [hlen, hn], by rw [hlen]; omega, fun h0 => absurd h0 (by rw [hlen]; omega)⟩
  · refine ⟨_, cap, by rw [hlen], by rw [hlen]; exact hc1, fun h0 => ⟨g, rfl, heap_lt hh, fun i zs hi => ?_⟩⟩
    obtain ⟨hi', e⟩ := List.getElem?_eq_some_iff.1 hi
    rw [hlen] at hi'
    have e' : zs = qs[i].2 := by rw [← e, List.getElem_map]
    have := World.news_of_block hh i qs[i].1 (by
      have e : (qs.map (·.1))[i]? = some qs[i].1 := by rw [List.getElem?_map, List.getElem?_eq_getElem hi']; rfl
      rw [← hc4, List.getElem?_take, if_pos (by omega)] at e
      exact e)
    have ea : (⟨g, 0, none⟩ : Addr).add i = ⟨g, i, none⟩ := by unfold Addr.add; split <;> simp_all
    rw [ea] at this
    exact ⟨_, this, by rw [e']; exact h2 _ (List.getElem_mem hi')⟩

/-- Nought in the first places? -/
def noughtTo (zs : List Int) (k : Nat) : Bool := decide (∀ j, j < k → zs.getD j 0 = 0)

end Go.Proofs.YtdedolkgcdlmeaaGreatDoor

/- The reference's Kernel. -/
namespace Go.Proofs.YtdedolkgcdlmeaaGreatDoor
open Go.RowKit Limbs Digs

def KerRPost (w : World) (n a0 : Nat) (ms : List (List Int)) (e : Ending) (w' : World) : Prop :=
  ∃ u ts p, e = .returned u ∧ MatQ w' u (behindL ms.length ts) (eB (dT a0 (n + min n (ms.length + n)) + 7) (ms.length + n)) ∧ FormL (ms.length + n) ts p ∧ Alikes (ms.length + n) (InL ts) (InL (tracedL ms n)) ∧ Below w.heap.size w w'

end Go.Proofs.YtdedolkgcdlmeaaGreatDoor

/- Regions that draw their order, and make, and call: what each operation answered stands while others come up; the last one may write. -/
namespace Go.Proofs.YtdedolkgcdlmeaaGreatDoor
open Go.RowKit Limbs

/-- What holds while operations come up: kv: the values that are known ahead; Sp: what is known of the others. -/
structure FS (deps : Nat → List Nat) (kv : Nat → Option Value) (Sp : Nat → (Nat → Value) → World → Prop) (w : World) (L : Array Bool) (c : Nat → Value) (W : World) : Prop where
  below : Below w.heap.size w W
  plain : ∀ i v, L.getD i false = true → kv i = some v → c i = v
  spec : ∀ i, L.getD i false = true → Sp i c W
  closed : ∀ i, L.getD i false = true → ∀ j ∈ deps i, L.getD j false = true

/-- What is known stays where others make, and hangs on the values of its own operations alone. -/
structure Stays (deps : Nat → List Nat) (Sp : Nat → (Nat → Value) → World → Prop) : Prop where
  later : ∀ i c W W', Below W.heap.size W W' → Sp i c W → Sp i c W'
  other : ∀ i j c v W, j ≠ i → i ∉ deps j → Sp j c W → Sp j (upd c i v) W

variable {deps : Nat → List Nat} {kv : Nat → Option Value} {Sp : Nat → (Nat → Value) → World → Prop} {Fin : (Nat → Value) → World → Prop} {w W W' : World} {L : Array Bool} {c : Nat → Value}

theorem FS.start (w : World) (n : Nat) (c : Nat → Value) : FS deps kv Sp w (Array.replicate n false) c w.drew where
  below := (Below.refl _ _).drew
  plain := fun i _ h => by simp [Array.getD] at h
  spec := fun i h => by simp [Array.getD] at h
  closed := fun i h => by simp [Array.getD] at h

theorem FS.made (h : FS deps kv Sp w L c W) (hst : Stays deps Sp) {i : Nat} (hn : L.getD i true = false) (hd : ∀ j ∈ deps i, L.getD j false = true) (hb : Below W.heap.size W W') {v : Value} (hk : ∀ u, kv i = some u → v = u) (hnew : Sp i (upd c i v) W') :
    FS deps kv Sp w (L.setIfInBounds i true) (upd c i v) W' where
  below := h.below.trans (hb.mono h.below.size)
  plain := fun j u hj hu => by
    by_cases e : j = i
    · subst e; rw [upd_self]; exact hk u hu
    · rw [upd_ne _ _ e]; exact h.plain j u (listed_old (fun e' => e e'.symm) hj) hu
  spec := fun j hj => by
    by_cases e : j = i
    · subst e; exact hnew
    · have hj' := listed_old (fun e' => e e'.symm) hj
      exact hst.other _ _ _ _ _ e (fun hm => listed_not hn (h.closed j hj' i hm)) (hst.later _ _ _ _ hb (h.spec j hj'))
  closed := fun j hj k hjk => by
    by_cases ek : i = k
    · subst ek; exact listed_new hn
    · rw [getD_set_ne false ek]
      by_cases e : j = i
      · subst e; exact hd k hjk
      · exact h.closed j (listed_old (fun e' => e e'.symm) hj) k hjk

/-- The same, with a last operation (m), behind which Fin holds. -/
def FSx (deps : Nat → List Nat) (kv : Nat → Option Value) (Sp : Nat → (Nat → Value) → World → Prop) (Fin : (Nat → Value) → World → Prop) (w : World) (m : Nat) (L : Array Bool) (c : Nat → Value) (W : World) : Prop :=
  (L.getD m false = false ∧ FS deps kv Sp w L c W) ∨ ((∀ i, i ≤ m → L.getD i false = true) ∧ Fin c W)

theorem FSx.start (w : World) (n m : Nat) (c : Nat → Value) : FSx deps kv Sp Fin w m (Array.replicate n false) c w.drew :=
  .inl ⟨by simp [Array.getD], FS.start w n c⟩

theorem FSx.pre {m : Nat} (h : FSx deps kv Sp Fin w m L c W) {i : Nat} (hi : i ≤ m) (hn : L.getD i true = false) : L.getD m false = false ∧ FS deps kv Sp w L c W := by
  rcases h with h | ⟨h, -⟩
  · exact h
  · exact absurd (h i hi) (listed_not hn)

theorem FS.next {m i : Nat} (h : FS deps kv Sp w (L.setIfInBounds i true) c W) (hne : i ≠ m) (hm : L.getD m false = false) : FSx deps kv Sp Fin w m (L.setIfInBounds i true) c W :=
  .inl ⟨by rw [getD_set_ne false hne]; exact hm, h⟩

theorem FSx.last {m : Nat} (hall : ∀ j, j < m → L.getD j false = true) (hn : L.getD m true = false) (hf : Fin c W) : FSx deps kv Sp Fin w m (L.setIfInBounds m true) c W :=
  .inr ⟨fun j hj => by
    by_cases e : m = j
    · subst e; exact listed_new hn
    · rw [getD_set_ne false e]; exact hall j (by omega), hf⟩

theorem FSx.fin {m : Nat} (h : FSx deps kv Sp Fin w m L c W) (hall : L.getD m false = true) : Fin c W := by
  rcases h with ⟨h, -⟩ | ⟨-, h⟩
  · rw [hall] at h; cases h
  · exact h

end Go.Proofs.YtdedolkgcdlmeaaGreatDoor

/- A variable that lies there. -/
namespace Go.Proofs.YtdedolkgcdlmeaaGreatDoor
open Go.RowKit Limbs

/-- A variable of two cells that lies there. -/
def BoxL (W : World) (B : Nat) (u0 u1 : Value) : Prop := Box W B u0 u1 ∧ B < W.heap.size

theorem BoxL.later {W W' : World} {B : Nat} {u0 u1 : Value} (h : BoxL W B u0 u1) (hb : Below W.heap.size W W') : BoxL W' B u0 u1 := ⟨h.1.later hb h.2, Nat.lt_of_lt_of_le h.2 hb.size⟩

theorem BoxL.new (W : World) (u0 u1 : Value) (t : TypeId) : BoxL (W.alloc (.cells #[u0, u1] t)) W.heap.size u0 u1 := ⟨box_new W u0 u1 t _ rfl, by simp⟩

theorem below_new (W : World) (ob : Obj) : Below W.heap.size W (W.alloc ob) := (Below.refl _ _).alloc (Nat.le_refl _) _

end Go.Proofs.YtdedolkgcdlmeaaGreatDoor
