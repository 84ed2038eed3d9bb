/- A vector that grows at its end; texts that do. -/
import Derived.Test.YtdedolkgcdlmeaaGreatDoorVecO
import Derived.Test.YtdedolkgcdlmeaaGreatDoorGcdA
namespace Go.Proofs.YtdedolkgcdlmeaaGreatDoor
open Go.RowKit Limbs

/-- Limbs that don't lie in that block. -/
def apart (og : Option Nat) (s : Value) : Prop := ∀ a l c, s = .slice (some a) l c → 0 < l → some a.block ≠ og

theorem Lim.grown {W W' : World} {row : Option Nat} {s : Value} {zs : List Int} (h : Lim W s zs) (hg : W.grownBy W' row) (hne : apart row s) : Lim W' s zs := by
  obtain ⟨ao, cap, rfl, h1, h2, h3, h4⟩ := h
  refine ⟨ao, cap, rfl, h1, h2, h3, fun h0 => ?_⟩
  obtain ⟨b, off, rfl, hlt, hc⟩ := h4 h0
  have hb := hne _ _ _ rfl h0
  exact ⟨b, off, rfl, Nat.lt_of_lt_of_le hlt hg.size, fun i hi => hg.cell (hc i hi) hb⟩

def Nm.val (r : Nm) : Value := .agg #[.bool r.neg, .slice r.o r.l r.c]
def Nm.sl (r : Nm) : Value := .slice r.o r.l r.c
def ncells (p : Nm × Int) : List Value := [.bool p.1.neg, .slice p.1.o p.1.l p.1.c]

theorem NumL.grown {W W' : World} {row : Option Nat} {r : Nm} {z : Int} {n : Nat} (h : NumL W r.val z n) (hg : W.grownBy W' row) (hne : apart row r.sl) : NumL W' r.val z n := by
  obtain ⟨neg, s, zs, e, hl, h3⟩ := h
  simp only [Nm.val, Value.agg.injEq, Array.mk.injEq, List.cons.injEq, Value.bool.injEq, and_true] at e
  obtain ⟨rfl, rfl⟩ := e
  exact ⟨_, _, zs, rfl, hl.grown hg hne, h3⟩

theorem NumL.inside {W : World} {r : Nm} {z : Int} {n : Nat} (h : NumL W r.val z n) : ∀ a l c, r.sl = .slice (some a) l c → 0 < l → a.block < W.heap.size := fun a l c e h0 => by
  obtain ⟨neg, s, zs, e1, hl, -⟩ := h
  simp only [Nm.val, Value.agg.injEq, Array.mk.injEq, List.cons.injEq, Value.bool.injEq, and_true] at e1
  obtain ⟨rfl, rfl⟩ := e1
  obtain ⟨ao, cap, e2, -, -, -, h4⟩ := hl
  unfold Nm.sl at e
  rw [e] at e2
  simp only [Value.slice.injEq] at e2
  obtain ⟨rfl, rfl, rfl⟩ := e2
  obtain ⟨b, off, e3, hlt, -⟩ := h4 h0
  simp only [Option.some.injEq] at e3
  rw [e3]
  exact hlt

/-- A row of numbers in memory of its own, that may grow. -/
def Grow (W : World) (base : Nat) (v : Value) (ps : List (Nm × Int)) (n : Nat) : Prop :=
  W.ownsRow base 29 2 v ps.length (ps.flatMap ncells) ∧ ∀ p ∈ ps, NumL W p.1.val p.2 n ∧ apart v.ownBlock p.1.sl

theorem Grow.nil (W : World) (base n : Nat) : Grow W base (.slice none 0 0) [] n := ⟨World.ownsRow_nil _ _ _ _, fun _ h => by cases h⟩

theorem Grow.later {W W' : World} {base : Nat} {v : Value} {ps : List (Nm × Int)} {n : Nat} (h : Grow W base v ps n) (hb : Below W.heap.size W W') : Grow W' base v ps n := by
  refine ⟨?_, fun p hp => ⟨(h.2 p hp).1.below hb (Nat.le_refl _), (h.2 p hp).2⟩⟩
  refine ⟨h.1.1, ?_⟩
  rcases h.1.2 with hn | ⟨g, cap, cur, e, hbg, hh, rest⟩
  · exact .inl hn
  · exact .inr ⟨g, cap, cur, e, hbg, (hb.block _ (heap_lt hh)).trans hh, rest⟩

theorem grow_snoc {base : Nat} {wr w3 : World} {v : Value} {ps : List (Nm × Int)} {n : Nat} {r : Nm} {z : Int} {g cap : Nat} {ob : Obj} (h : Grow wr base v ps n) (hz : NumL wr r.val z n) (ha : apart v.ownBlock r.sl)
    (hown : w3.ownsRow base 29 2 (.slice (some ⟨g, 0, none⟩) (ps.length + 1) cap) (ps.length + 1) (ps.flatMap ncells ++ ncells (r, z)))
    (hg : (wr.alloc ob).grownBy w3 v.ownBlock) (hat : v.ownBlock = some g ∨ g = wr.heap.size + 1) : Grow w3 base (.slice (some ⟨g, 0, none⟩) (ps.length + 1) cap) (ps ++ [(r, z)]) n := by
  refine ⟨by rw [List.length_append, List.length_singleton, List.flatMap_append, List.flatMap_singleton]; exact hown, fun p hp => ?_⟩
  have key : ∀ p : Nm × Int, NumL wr p.1.val p.2 n → apart v.ownBlock p.1.sl → NumL w3 p.1.val p.2 n ∧ apart (some g) p.1.sl := fun p h1 h2 => by
    refine ⟨(h1.below ((Below.refl _ _).alloc (Nat.le_refl _) ob) (Nat.le_refl _)).grown hg h2, fun a l c e h0 hb => ?_⟩
    rcases hat with h | h
    · exact h2 a l c e h0 (hb.trans h.symm)
    · have := h1.inside a l c e h0
      simp only [Option.some.injEq] at hb
      omega
  rcases List.mem_append.1 hp with h' | h'
  · exact key p (h.2 p h').1 (h.2 p h').2
  · rw [List.mem_singleton] at h'
    rw [h']
    exact key (r, z) hz ha

theorem grow_below {base : Nat} {wr w3 : World} {v : Value} {ps : List (Nm × Int)} {n : Nat} {ob : Obj} (h : Grow wr base v ps n) (hB : base ≤ wr.heap.size) (hg : (wr.alloc ob).grownBy w3 v.ownBlock) : Below base wr w3 :=
  ((Below.refl _ _).alloc hB _).grown hg (by simp; omega) (fun k hk => (h.1.lt k hk).1)

theorem ncells_at (ps : List (Nm × Int)) : ∀ i (h : i < ps.length), (ps.flatMap ncells)[i * 2]? = some (.bool ps[i].1.neg) ∧ (ps.flatMap ncells)[i * 2 + 1]? = some (.slice ps[i].1.o ps[i].1.l ps[i].1.c) := by
  induction ps with
  | nil => intro i h; exact absurd h (by simp)
  | cons p ps ih =>
    intro i h
    rw [List.flatMap_cons]
    cases i with
    | zero => exact ⟨rfl, rfl⟩
    | succ i =>
      obtain ⟨h1, h2⟩ := ih i (by simpa using h)
      have e1 : (i + 1) * 2 = i * 2 + 2 := by omega
      rw [e1, show i * 2 + 2 + 1 = i * 2 + 1 + 2 by omega, List.getElem?_append_right (by simp [ncells]), List.getElem?_append_right (by simp [ncells])]
      exact ⟨h1, h2⟩

/-- It is a vector of these numbers. -/
theorem Grow.vec {W : World} {base : Nat} {v : Value} {ps : List (Nm × Int)} {n : Nat} (h : Grow W base v ps n) : VecN W v (ps.map (·.2)) n := by
  obtain ⟨⟨-, h1⟩, h2⟩ := h
  have hlen : (ps.map (·.2)).length = ps.length := List.length_map ..
  rcases h1 with ⟨rfl, hn⟩ | ⟨g, cap, cur, rfl, hb, hh, hc1, hc2, hc3, hc4⟩
  · exact ⟨none, 0, by rw [hlen, hn], by rw [hlen]; omega, fun h0 => absurd h0 (by rw [hlen]; omega)⟩
  · refine ⟨_, cap, by rw [hlen], by rw [hlen]; exact hc1, fun h0 => ⟨g, 0, rfl, heap_lt hh, fun i hi => ?_⟩⟩
    rw [hlen] at hi
    obtain ⟨e1, e2⟩ := ncells_at ps i hi
    have hcell : ∀ k u, k < ps.length * 2 → (ps.flatMap ncells)[k]? = some u → W.cell? ⟨g, 0 + k, none⟩ = some u := fun k u hk hu => by
      have := World.news_of_block hh k u (by rw [← hc4, List.getElem?_take, if_pos hk] at hu; exact hu)
      have e : (⟨g, 0, none⟩ : Addr).add k = ⟨g, 0 + k, none⟩ := by unfold Addr.add; split <;> simp_all
      rwa [e] at this
    refine ⟨ps[i].1.neg, ps[i].1.o, ps[i].1.l, ps[i].1.c, hcell _ _ (by omega) e1, hcell _ _ (by omega) e2, ?_⟩
    have e3 : (ps.map (·.2)).getD i 0 = ps[i].2 := by
      rw [List.getD_eq_getElem?_getD, List.getElem?_map, List.getElem?_eq_getElem hi]; rfl
    rw [e3]
    exact (h2 _ (List.getElem_mem hi)).1

end Go.Proofs.YtdedolkgcdlmeaaGreatDoor
