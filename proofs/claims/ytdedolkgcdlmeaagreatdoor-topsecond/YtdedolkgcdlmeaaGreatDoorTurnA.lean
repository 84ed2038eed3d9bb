/- Rows that grow, in a list of one's own. -/
import Derived.Test.YtdedolkgcdlmeaaGreatDoorVecG
import Derived.Test.YtdedolkgcdlmeaaGreatDoorGrowV
import Derived.Test.YtdedolkgcdlmeaaGreatDoorBeside
namespace Go.Proofs.YtdedolkgcdlmeaaGreatDoor
open Go.RowKit Limbs

def updN {α : Type} (f : Nat → α) (k : Nat) (x : α) : Nat → α := fun i => if i = k then x else f i

theorem updN_self {α : Type} (f : Nat → α) (k : Nat) (x : α) : updN f k x k = x := if_pos rfl
theorem updN_ne {α : Type} (f : Nat → α) (k : Nat) (x : α) {i : Nat} (h : i ≠ k) : updN f k x i = f i := if_neg h

/-- Rows that grow, each in a block of its own, in a list of one's own. -/
structure OutG (w W : World) (O m : Nat) (vs : Nat → Value) (ps : Nat → List (Nm × Int)) (N : Nat) : Prop where
  low : Below w.heap.size w W
  high : w.heap.size ≤ O
  blk : ∃ cs, W.heap[O]? = some (.cells cs 72)
  cell : ∀ i, i < m → W.cell? ⟨O, i, none⟩ = some (vs i)
  grow : ∀ i, i < m → Grow W w.heap.size (vs i) (ps i) N
  two : ∀ i k, i < m → k < m → i ≠ k → ∀ g, (vs i).ownBlock = some g → (vs k).ownBlock ≠ some g
  lim : ∀ i k, i < m → k < m → ∀ p ∈ ps i, apart (vs k).ownBlock p.1.sl

theorem OutG.start {w W0 : World} (hb : Below w.heap.size w W0) (m N : Nat) : OutG w (W0.alloc (.cells (madeCells #[.slice none 0 0] m) 72)) W0.heap.size m (fun _ => .slice none 0 0) (fun _ => []) N where
  low := hb.alloc hb.size _
  high := hb.size
  blk := ⟨_, heap_alloc_new W0 _⟩
  cell := fun i hi => by
    rw [World.cell?_alloc_new]
    exact one_made m i hi
  grow := fun _ _ => Grow.nil _ _ _
  two := fun _ _ _ _ _ g h => by cases h
  lim := fun _ _ _ _ p hp => by cases hp

theorem OutG.lt {w W : World} {O m : Nat} {vs : Nat → Value} {ps : Nat → List (Nm × Int)} {N : Nat} (h : OutG w W O m vs ps N) : O < W.heap.size := by
  obtain ⟨cs, e⟩ := h.blk
  exact heap_lt e

theorem OutG.thaw {w W : World} {O m : Nat} {vs : Nat → Value} {ps : Nat → List (Nm × Int)} {N : Nat} (h : OutG w W O m vs ps N) (k : Nat) : W.frozen? ⟨O, k, none⟩ = false := by
  obtain ⟨cs, e⟩ := h.blk
  simp [World.frozen?, e]

theorem OutG.later {w W W' : World} {O m : Nat} {vs : Nat → Value} {ps : Nat → List (Nm × Int)} {N : Nat} (h : OutG w W O m vs ps N) (hb : Below W.heap.size W W') : OutG w W' O m vs ps N where
  low := h.low.trans (hb.mono h.low.size)
  high := h.high
  blk := by obtain ⟨cs, e⟩ := h.blk; exact ⟨cs, (hb.block _ (heap_lt e)).trans e⟩
  cell := fun i hi => (hb.cell (p := ⟨O, i, none⟩) h.lt).trans (h.cell i hi)
  grow := fun i hi => (h.grow i hi).later hb
  two := h.two
  lim := h.lim

/-- The list's block is none of theirs. -/
theorem OutG.own_ne {w W : World} {O m : Nat} {vs : Nat → Value} {ps : Nat → List (Nm × Int)} {N : Nat} (h : OutG w W O m vs ps N) {i : Nat} (hi : i < m) : some O ≠ (vs i).ownBlock := fun e => by
  obtain ⟨cs, hO⟩ := h.blk
  rcases (h.grow i hi).1.2 with ⟨e1, -⟩ | ⟨g, cap, cur, e1, -, hh, -⟩
  · rw [e1] at e; cases e
  · rw [e1] at e
    simp only [Value.ownBlock, Option.some.injEq] at e
    rw [← e, hO] at hh
    simp only [Option.some.injEq, Obj.cells.injEq] at hh
    exact absurd hh.2.1 (by decide)

theorem ownsRow_block {W W' : World} {base : Nat} {e : TypeId} {size : Nat} {v : Value} {n : Nat} {xs : List Value} (h : W.ownsRow base e size v n xs) (hk : ∀ g, v.ownBlock = some g → W'.heap[g]? = W.heap[g]?) : W'.ownsRow base e size v n xs := by
  refine ⟨h.1, ?_⟩
  rcases h.2 with hn | ⟨g, cap, cur, ev, hbg, hg, rest⟩
  · exact .inl hn
  · exact .inr ⟨g, cap, cur, ev, hbg, (hk g (by rw [ev]; rfl)).trans hg, rest⟩

theorem own_lt {W : World} {base n : Nat} {v : Value} {ps : List (Nm × Int)} (h : Grow W base v ps n) {g : Nat} (hg : v.ownBlock = some g) : g < W.heap.size := (h.1.lt g hg).2

/-- Numbers are put behind a row. -/
theorem OutG.push {w W W3 : World} {O m : Nat} {vs : Nat → Value} {ps : Nat → List (Nm × Int)} {N : Nat} (h : OutG w W O m vs ps N) {k : Nat} (hk : k < m) (qs : List (Nm × Int)) (hq : ∀ p ∈ qs, NumL W p.1.val p.2 N) (hqa : ∀ i, i < m → ∀ p ∈ qs, apart (vs i).ownBlock p.1.sl)
    {g L cap : Nat} (hL : L = (ps k).length + qs.length) (hown : W3.ownsRow w.heap.size 29 2 (.slice (some ⟨g, 0, none⟩) L cap) L ((ps k).flatMap ncells ++ qs.flatMap ncells)) (hg : W.grownBy W3 (vs k).ownBlock) (hat : (vs k).ownBlock = some g ∨ W.heap.size ≤ g) :
    OutG w (W3.setCell ⟨O, k, none⟩ (.slice (some ⟨g, 0, none⟩) L cap)) O m (updN vs k (.slice (some ⟨g, 0, none⟩) L cap)) (updN ps k (ps k ++ qs)) N := by
  obtain ⟨cs, hO⟩ := h.blk
  have hOlt := h.lt
  have hO3 : W3.heap[O]? = some (.cells cs 72) := (hg.block O hOlt (h.own_ne hk)).trans hO
  have hc3 : ∀ i, i < m → W3.cell? ⟨O, i, none⟩ = some (vs i) := fun i hi => hg.cell (h.cell i hi) (h.own_ne hk)
  have hgO : g ≠ O := by
    intro e
    rcases hown.2 with ⟨e1, -⟩ | ⟨g', cap', cur, e1, -, hh, -⟩
    · cases e1
    · simp only [Value.slice.injEq, Option.some.injEq, Addr.mk.injEq, and_true] at e1
      rw [← e1.1, e, hO3] at hh
      simp only [Option.some.injEq, Obj.cells.injEq] at hh
      exact absurd hh.2.1 (by decide)
  have hslice : ∃ o l c, vs k = .slice o l c := by
    rcases (h.grow k hk).1.2 with ⟨e1, -⟩ | ⟨g', cap', cur, e1, -⟩
    · exact ⟨_, _, _, e1⟩
    · exact ⟨_, _, _, e1⟩
  have hu : ∀ z, vs k ≠ .int .u32 z := fun z e => by
    obtain ⟨o, l, c, e1⟩ := hslice
    rw [e1] at e; cases e
  have hnum : ∀ p : Nm × Int, NumL W p.1.val p.2 N → apart (vs k).ownBlock p.1.sl → NumL (W3.setCell ⟨O, k, none⟩ (.slice (some ⟨g, 0, none⟩) L cap)) p.1.val p.2 N := fun p h1 h2 => (h1.grown hg h2).setCell (hc3 k hk) hu
  have hnew : ∀ p : Nm × Int, NumL W p.1.val p.2 N → apart (vs k).ownBlock p.1.sl → apart (some g) p.1.sl := fun p h1 h2 a l c e h0 hb => by
    rcases hat with hat | hat
    · exact h2 a l c e h0 (hb.trans hat.symm)
    · have := h1.inside a l c e h0
      simp only [Option.some.injEq] at hb
      omega
  have hall : ∀ i, i < m → ∀ p ∈ updN ps k (ps k ++ qs) i, NumL W p.1.val p.2 N ∧ ∀ j, j < m → apart (vs j).ownBlock p.1.sl := fun i hi p hp => by
    by_cases e : i = k
    · rw [e, updN_self] at hp
      rcases List.mem_append.1 hp with hp | hp
      · exact ⟨((h.grow k hk).2 p hp).1, fun j hj => h.lim k j hk hj p hp⟩
      · exact ⟨hq p hp, fun j hj => hqa j hj p hp⟩
    · rw [updN_ne _ _ _ e] at hp
      exact ⟨((h.grow i hi).2 p hp).1, fun j hj => h.lim i j hi hj p hp⟩
  have hlim : ∀ i j, i < m → j < m → ∀ p ∈ updN ps k (ps k ++ qs) i, apart (updN vs k (.slice (some ⟨g, 0, none⟩) L cap) j).ownBlock p.1.sl := fun i j hi hj p hp => by
    obtain ⟨h1, h2⟩ := hall i hi p hp
    by_cases e : j = k
    · rw [e, updN_self]; exact hnew p h1 (h2 k hk)
    · rw [updN_ne _ _ _ e]; exact h2 j hj
  have hheap : ∀ b, b ≠ O → (W3.setCell ⟨O, k, none⟩ (.slice (some ⟨g, 0, none⟩) L cap)).heap[b]? = W3.heap[b]? := fun b hb => heap_setCell_other _ _ b _ (fun e => hb e)
  have hb3 : Below w.heap.size w W3 := h.low.grown hg h.low.size (fun b hb => ((h.grow k hk).1.lt b hb).1)
  refine ⟨hb3.setCell (p := ⟨O, k, none⟩) h.high _, h.high, ⟨_, heap_setCell_same W3 O k _ _ _ hO3⟩, fun i hi => ?_, fun i hi => ⟨?_, fun p hp => ⟨?_, hlim i i hi hi p hp⟩⟩, fun i j hi hj hij b h1 h2 => ?_, hlim⟩
  · by_cases e : i = k
    · rw [e, updN_self]; exact World.cell?_setCell_same (h := hc3 k hk) ..
    · rw [updN_ne _ _ _ e]; exact (World.cell?_setCell_other (h := fun e' => by simp at e' <;> omega) ..).trans (hc3 i hi)
  · by_cases e : i = k
    · rw [e, updN_self, updN_self, List.length_append, ← hL, List.flatMap_append]
      exact ownsRow_block hown fun b hb => hheap b (by
        simp only [Value.ownBlock, Option.some.injEq] at hb
        omega)
    · rw [updN_ne _ _ _ e, updN_ne _ _ _ e]
      refine ownsRow_block (h.grow i hi).1 fun b hb => (hheap b fun e' => h.own_ne hi (by rw [hb, e'])).trans ?_
      exact hg.block b (own_lt (h.grow i hi) hb) fun e' => h.two i k hi hk e b hb e'.symm
  · obtain ⟨h1, h2⟩ := hall i hi p hp
    exact hnum p h1 (h2 k hk)
  · by_cases e : i = k
    · rw [e, updN_self] at h1
      have ej : j ≠ k := by omega
      rw [updN_ne _ _ _ ej] at h2
      simp only [Value.ownBlock, Option.some.injEq] at h1
      rcases hat with hat | hat
      · exact h.two k j hk hj (by omega) b (by rw [hat, h1]) h2
      · have := own_lt (h.grow j hj) h2
        omega
    · rw [updN_ne _ _ _ e] at h1
      by_cases ej : j = k
      · rw [ej, updN_self] at h2
        simp only [Value.ownBlock, Option.some.injEq] at h2
        rcases hat with hat | hat
        · exact h.two k i hk hi (by omega) b (by rw [hat, h2]) h1
        · have := own_lt (h.grow i hi) h1
          omega
      · rw [updN_ne _ _ _ ej] at h2
        exact h.two i j hi hj hij b h1 h2

/-- They are rows. -/
theorem OutG.mat {w W : World} {O m : Nat} {vs : Nat → Value} {ps : Nat → List (Nm × Int)} {N : Nat} (h : OutG w W O m vs ps N) (zss : List (List Int)) (hl : zss.length = m) (hz : ∀ i, i < m → (ps i).map (·.2) = zss.getD i []) : MatN W (.slice (some ⟨O, 0, none⟩) m m) zss N := by
  subst hl
  refine ⟨_, _, rfl, Nat.le_refl _, fun h0 => ⟨_, _, rfl, h.lt, fun i zs hi => ?_⟩⟩
  obtain ⟨hi', e⟩ := List.getElem?_eq_some_iff.1 hi
  refine ⟨vs i, by rw [Nat.zero_add]; exact h.cell i hi', ?_⟩
  have := (h.grow i hi').vec
  rw [hz i hi', getD_row hi', e] at this
  exact this

/-- Limbs of what was there are in none of their blocks. -/
theorem OutG.old {w W : World} {O m : Nat} {vs : Nat → Value} {ps : Nat → List (Nm × Int)} {N : Nat} (h : OutG w W O m vs ps N) {r : Nm} {z : Int} {n : Nat} (hr : NumL w r.val z n) {i : Nat} (hi : i < m) : apart (vs i).ownBlock r.sl := fun a l c e h0 hb => by
  have h1 := hr.inside a l c e h0
  have h2 := ((h.grow i hi).1.lt a.block hb.symm).1
  omega

end Go.Proofs.YtdedolkgcdlmeaaGreatDoor
