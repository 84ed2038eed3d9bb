/- Rows in the one form are bounded by what generates the same. -/
import Derived.Test.YtdedolkgcdlmeaaGreatDoorRefComb
import Derived.Test.YtdedolkgcdlmeaaGreatDoorMats
import Derived.Test.YtdedolkgcdlmeaaGreatDoorStairs
import Derived.Test.YtdedolkgcdlmeaaGreatDoorGcdA
import Derived.Laws.CopyOwn
import Derived.Test.YtdedolkgcdlmeaaGreatDoorSmT
import Derived.Test.YtdedolkgcdlmeaaGreatDoorOpenV
import Derived.Test.YtdedolkgcdlmeaaGreatDoorSmV
import Derived.Test.YtdedolkgcdlmeaaGreatDoorShare
import Derived.Test.YtdedolkgcdlmeaaGreatDoorTextW

namespace Go.Proofs.YtdedolkgcdlmeaaGreatDoor
open Go.RowKit Limbs

theorem MatN.tight {w : World} {v : Value} {zss : List (List Int)} {n m : Nat} (h : MatN w v zss n) (hz : ∀ zs ∈ zss, ∀ j, j < zs.length → ab (zs.getD j 0) < bp m) : MatN w v zss m := by
 obtain ⟨ao, cap, hv, h1, h2⟩ := h
 refine ⟨ao, cap, hv, h1, fun h0 => ?_⟩
 obtain ⟨b, off, e, hlt, hc⟩ := h2 h0
 refine ⟨b, off, e, hlt, fun i zs hi => ?_⟩
 obtain ⟨u, cu, hu⟩ := hc i zs hi
 exact ⟨u, cu, hu.tight (hz zs (List.mem_of_getElem? hi))⟩

theorem MatN.abs {w : World} {v : Value} {ms : List (List Int)} {nv : Nat} (h : MatN w v ms nv) : ∀ us ∈ ms, ∀ j, j < us.length → ab (us.getD j 0) < bp nv := fun us hus j hj => by
 obtain ⟨i, hi, e⟩ := List.getElem_of_mem hus
 obtain ⟨b, off, cap', e1, hlt, u, hc, hu⟩ := h.at i hi
 rw [e] at hu
 obtain ⟨b', off', cap2, e2⟩ := hu.form (by omega)
 subst e2
 obtain ⟨-, neg, o, l, c, -, -, hz⟩ := hu.at j hj
 exact hz.ab_lt

end Go.Proofs.YtdedolkgcdlmeaaGreatDoor

/- copy: numbers of a vector go over into a vector of one's own. -/
namespace Go.Proofs.YtdedolkgcdlmeaaGreatDoor
open Go.RowKit Limbs

def pcells (p : Nm × Int) : List Value := [.bool p.1.neg, .slice p.1.o p.1.l p.1.c]

theorem splice_set (zs us : List Int) (k : Nat) (u : Int) (hk : k < zs.length) : splice (zs.set k u) (k + 1) us = splice zs k (u :: us) := by
 unfold splice
 have hk' : k < (zs.set k u).length := by rw [List.length_set]; exact hk
 rw [List.take_succ_eq_append_getElem hk', List.getElem_set_self, List.take_set_of_le (Nat.le_refl _), List.drop_set_of_lt (by omega), List.length_cons, show k + 1 + us.length = k + (us.length + 1) by omega, List.append_assoc]
 rfl

theorem NumL.laid {w W : World} {P : Nat} {zs : List Int} {n : Nat} (h : VecO w W P zs n) {k : Nat} (hk : k < zs.length) (neg : Bool) (o : Option Addr) (l c : Nat) {v : Value} {y : Int} {m : Nat} (hv : NumL W v y m) :
  NumL ((W.setCell ⟨P, k * 2, none⟩ (.bool neg)).setCell ⟨P, k * 2 + 1, none⟩ (.slice o l c)) v y m := by
 obtain ⟨neg0, o0, l0, c0, k0, k1, -⟩ := h.at k hk
 have k1' : (W.setCell ⟨P, k * 2, none⟩ (.bool neg)).cell? ⟨P, k * 2 + 1, none⟩ = some (.slice o0 l0 c0) := (World.cell?_setCell_other (h := fun e => by simp at e) ..).trans k1
 exact (hv.setCell k0 (fun z e => by cases e)).setCell k1' (fun z e => by cases e)

theorem VecO.lay {w : World} {P n : Nat} : ∀ (ps : List (Nm × Int)) (k : Nat) (W : World) (zs : List Int), VecO w W P zs n → k + ps.length ≤ zs.length → (∀ p ∈ ps, NumL W (.agg #[.bool p.1.neg, .slice p.1.o p.1.l p.1.c]) p.2 n) → VecO w (W.setCells P (k * 2) (ps.flatMap pcells)) P (splice zs k (ps.map (·.2))) n
 | [], k, W, zs, h, _, _ => by simpa [splice, World.setCells] using h
 | p :: ps, k, W, zs, h, hk, hn => by
  rw [List.length_cons] at hk
  have hset := h.set (k := k) (by omega) (hn p (by simp))
  have hrest := VecO.lay ps (k + 1) _ _ hset (by rw [List.length_set]; omega) (fun q hq => NumL.laid h (by omega) _ _ _ _ (hn q (by simp [hq])))
  rw [splice_set _ _ _ _ (by omega), show (k + 1) * 2 = k * 2 + 1 + 1 by omega] at hrest
  exact hrest

end Go.Proofs.YtdedolkgcdlmeaaGreatDoor

/- Rows that are made one by one, in a list of one's own; rows twice as wide. -/
namespace Go.Proofs.YtdedolkgcdlmeaaGreatDoor
open Go.RowKit Limbs

structure RowsI (w W : World) (B : Nat) (m : Nat) (rows : List (List Int)) (k N : Nat) : Prop where
 low : Below w.heap.size w W
 high : w.heap.size ≤ B
 lt : B < W.heap.size
 blk : ∃ cs t, W.heap[B]? = some (.cells cs t)
 nil : ∀ i, k ≤ i → i < m → W.cell? ⟨B, i, none⟩ = some (.slice none 0 0)
 row : ∀ i, i < k → ∃ Q, W.cell? ⟨B, i, none⟩ = some (.slice (some ⟨Q, 0, none⟩) (rows.getD i []).length (rows.getD i []).length) ∧ VecN W (.slice (some ⟨Q, 0, none⟩) (rows.getD i []).length (rows.getD i []).length) (rows.getD i []) N ∧ Q < W.heap.size ∧ Q ≠ B

theorem one_made (m i : Nat) (hi : i < m) : (madeCells #[.slice none 0 0] m)[i]? = some (.slice none 0 0) := by
 simp [madeCells, hi, Nat.mod_one]

theorem RowsI.start {w W0 : World} (hb : Below w.heap.size w W0) (m : Nat) (rows : List (List Int)) (N : Nat) : RowsI w (W0.alloc (.cells (madeCells #[.slice none 0 0] m) 72)) W0.heap.size m rows 0 N := by
 refine ⟨hb.alloc hb.size _, hb.size, by simp, ⟨_, _, heap_alloc_new W0 _⟩, fun i _ hi => ?_, fun i hi => absurd hi (by omega)⟩
 rw [World.cell?_alloc_new]
 exact one_made m i hi

theorem RowsI.later {w W W' : World} {B m : Nat} {rows : List (List Int)} {k N : Nat} (h : RowsI w W B m rows k N) (hb : Below W.heap.size W W') : RowsI w W' B m rows k N where
 low := h.low.trans (hb.mono h.low.size)
 high := h.high
 lt := Nat.lt_of_lt_of_le h.lt hb.size
 blk := by obtain ⟨cs, t, e⟩ := h.blk; exact ⟨cs, t, (hb.block _ (heap_lt e)).trans e⟩
 nil := fun i h1 h2 => (hb.cell (p := ⟨B, i, none⟩) h.lt).trans (h.nil i h1 h2)
 row := fun i hi => by
  obtain ⟨Q, e, hv, hq, hne⟩ := h.row i hi
  exact ⟨Q, (hb.cell (p := ⟨B, i, none⟩) h.lt).trans e, hv.below hb (Nat.le_refl _), Nat.lt_of_lt_of_le hq hb.size, hne⟩

theorem RowsI.thaw {w W : World} {B m : Nat} {rows : List (List Int)} {k N : Nat} (h : RowsI w W B m rows k N) (i : Nat) : W.frozen? ⟨B, i, none⟩ = false := by
 obtain ⟨cs, t, e⟩ := h.blk
 simp [World.frozen?, e]

theorem RowsI.step {w W W' : World} {B m : Nat} {rows : List (List Int)} {k N : Nat} (h : RowsI w W B m rows k N) (hk : k < m) (hb : Below W.heap.size (W.setCell ⟨B, k, none⟩ (.slice (some ⟨W.heap.size, 0, none⟩) (rows.getD k []).length (rows.getD k []).length)) W')
  (hlt : W.heap.size < W'.heap.size) (hv : VecN W' (.slice (some ⟨W.heap.size, 0, none⟩) (rows.getD k []).length (rows.getD k []).length) (rows.getD k []) N) : RowsI w W' B m rows (k + 1) N := by
 have hnil := h.nil k (Nat.le_refl _) hk
 have hu : ∀ z, (Value.slice none 0 0) ≠ .int .u32 z := fun z e => by cases e
 have hlb := h.lt
 refine ⟨(h.low.setCell (p := ⟨B, k, none⟩) h.high _).trans (hb.mono h.low.size), h.high, by omega, ?_, fun i h1 h2 => ?_, fun i hi => ?_⟩
 ·obtain ⟨cs, t, e⟩ := h.blk
  exact ⟨_, t, (hb.block B hlb).trans (heap_setCell_same W B k _ _ _ e)⟩
 ·exact (hb.cell (p := ⟨B, i, none⟩) hlb).trans ((World.cell?_setCell_other (h := fun e => by simp at e <;> omega) ..).trans (h.nil i (by omega) h2))
 ·by_cases e : i = k
  ·subst e
   exact ⟨_, (hb.cell (p := ⟨B, i, none⟩) hlb).trans (World.cell?_setCell_same (h := hnil) ..), hv, hlt, by omega⟩
  ·obtain ⟨Q', e', hv', hq', hne'⟩ := h.row i (by omega)
   have hv2 := hv'.other (x := .slice (some ⟨W.heap.size, 0, none⟩) (rows.getD k []).length (rows.getD k []).length) hne' hnil hu
   exact ⟨Q', (hb.cell (p := ⟨B, i, none⟩) hlb).trans ((World.cell?_setCell_other (h := fun e => by simp at e <;> omega) ..).trans e'), hv2.below hb (by simp), by omega, hne'⟩

theorem RowsI.mat {w W : World} {B m : Nat} {rows : List (List Int)} {N : Nat} (h : RowsI w W B m rows m N) (hm : rows.length = m) : MatN W (.slice (some ⟨B, 0, none⟩) m m) rows N := by
 subst hm
 refine ⟨_, _, rfl, Nat.le_refl _, fun h0 => ⟨_, _, rfl, h.lt, fun i zs hi => ?_⟩⟩
 obtain ⟨hi', e⟩ := List.getElem?_eq_some_iff.1 hi
 obtain ⟨Q, e1, hv, -, -⟩ := h.row i hi'
 rw [getD_row hi', e] at e1 hv
 exact ⟨_, by rw [Nat.zero_add]; exact e1, hv⟩

def besL (n : Nat) (hs os : List (List Int)) : List (List Int) := List.zipWith (fun r o => r ++ (o ++ List.replicate (n - o.length) 0)) hs os

end Go.Proofs.YtdedolkgcdlmeaaGreatDoor

/- Rows that grow, in a list of one's own. -/
namespace Go.Proofs.YtdedolkgcdlmeaaGreatDoor
open Go.RowKit Limbs

def updN {α : Type} (f : Nat → α) (k : Nat) (x : α) : Nat → α := fun i => if i = k then x else f i

theorem updN_self {α : Type} (f : Nat → α) (k : Nat) (x : α) : updN f k x k = x := if_pos rfl
theorem updN_ne {α : Type} (f : Nat → α) (k : Nat) (x : α) {i : Nat} (h : i ≠ k) : updN f k x i = f i := if_neg h

structure OutG (w W : World) (O m : Nat) (vs : Nat → Value) (ps : Nat → List (Nm × Int)) (N : Nat) : Prop where
 low : Below w.heap.size w W
 high : w.heap.size ≤ O
 blk : ∃ cs, W.heap[O]? = some (.cells cs 72)
 cell : ∀ i, i < m → W.cell? ⟨O, i, none⟩ = some (vs i)
 grow : ∀ i, i < m → Grow W w.heap.size (vs i) (ps i) N
 two : ∀ i k, i < m → k < m → i ≠ k → ∀ g, (vs i).ownBlock = some g → (vs k).ownBlock ≠ some g
 lim : ∀ i k, i < m → k < m → ∀ p ∈ ps i, apart (vs k).ownBlock p.1.sl

theorem OutG.start {w W0 : World} (hb : Below w.heap.size w W0) (m N : Nat) : OutG w (W0.alloc (.cells (madeCells #[.slice none 0 0] m) 72)) W0.heap.size m (fun _ => .slice none 0 0) (fun _ => []) N where
 low := hb.alloc hb.size _
 high := hb.size
 blk := ⟨_, heap_alloc_new W0 _⟩
 cell := fun i hi => by
  rw [World.cell?_alloc_new]
  exact one_made m i hi
 grow := fun _ _ => Grow.nil _ _ _
 two := fun _ _ _ _ _ g h => by cases h
 lim := fun _ _ _ _ p hp => by cases hp

theorem OutG.lt {w W : World} {O m : Nat} {vs : Nat → Value} {ps : Nat → List (Nm × Int)} {N : Nat} (h : OutG w W O m vs ps N) : O < W.heap.size := by
 obtain ⟨cs, e⟩ := h.blk
 exact heap_lt e

theorem OutG.thaw {w W : World} {O m : Nat} {vs : Nat → Value} {ps : Nat → List (Nm × Int)} {N : Nat} (h : OutG w W O m vs ps N) (k : Nat) : W.frozen? ⟨O, k, none⟩ = false := by
 obtain ⟨cs, e⟩ := h.blk
 simp [World.frozen?, e]

theorem OutG.later {w W W' : World} {O m : Nat} {vs : Nat → Value} {ps : Nat → List (Nm × Int)} {N : Nat} (h : OutG w W O m vs ps N) (hb : Below W.heap.size W W') : OutG w W' O m vs ps N where
 low := h.low.trans (hb.mono h.low.size)
 high := h.high
 blk := by obtain ⟨cs, e⟩ := h.blk; exact ⟨cs, (hb.block _ (heap_lt e)).trans e⟩
 cell := fun i hi => (hb.cell (p := ⟨O, i, none⟩) h.lt).trans (h.cell i hi)
 grow := fun i hi => (h.grow i hi).later hb
 two := h.two
 lim := h.lim

theorem OutG.own_ne {w W : World} {O m : Nat} {vs : Nat → Value} {ps : Nat → List (Nm × Int)} {N : Nat} (h : OutG w W O m vs ps N) {i : Nat} (hi : i < m) : some O ≠ (vs i).ownBlock := fun e => by
 obtain ⟨cs, hO⟩ := h.blk
 rcases (h.grow i hi).1.2 with ⟨e1, -⟩ | ⟨g, cap, cur, e1, -, hh, -⟩
 ·rw [e1] at e; cases e
 ·rw [e1] at e
  simp only [Value.ownBlock, Option.some.injEq] at e
  rw [← e, hO] at hh
  simp only [Option.some.injEq, Obj.cells.injEq] at hh
  exact absurd hh.2.1 (by decide)

theorem ownsRow_block {W W' : World} {base : Nat} {e : TypeId} {size : Nat} {v : Value} {n : Nat} {xs : List Value} (h : W.ownsRow base e size v n xs) (hk : ∀ g, v.ownBlock = some g → W'.heap[g]? = W.heap[g]?) : W'.ownsRow base e size v n xs := by
 refine ⟨h.1, ?_⟩
 rcases h.2 with hn | ⟨g, cap, cur, ev, hbg, hg, rest⟩
 ·exact .inl hn
 ·exact .inr ⟨g, cap, cur, ev, hbg, (hk g (by rw [ev]; rfl)).trans hg, rest⟩

theorem own_lt {W : World} {base n : Nat} {v : Value} {ps : List (Nm × Int)} (h : Grow W base v ps n) {g : Nat} (hg : v.ownBlock = some g) : g < W.heap.size := (h.1.lt g hg).2

theorem OutG.push {w W W3 : World} {O m : Nat} {vs : Nat → Value} {ps : Nat → List (Nm × Int)} {N : Nat} (h : OutG w W O m vs ps N) {k : Nat} (hk : k < m) (qs : List (Nm × Int)) (hq : ∀ p ∈ qs, NumL W p.1.val p.2 N) (hqa : ∀ i, i < m → ∀ p ∈ qs, apart (vs i).ownBlock p.1.sl)
  {g L cap : Nat} (hL : L = (ps k).length + qs.length) (hown : W3.ownsRow w.heap.size 29 2 (.slice (some ⟨g, 0, none⟩) L cap) L ((ps k).flatMap ncells ++ qs.flatMap ncells)) (hg : W.grownBy W3 (vs k).ownBlock) (hat : (vs k).ownBlock = some g ∨ W.heap.size ≤ g) :
  OutG w (W3.setCell ⟨O, k, none⟩ (.slice (some ⟨g, 0, none⟩) L cap)) O m (updN vs k (.slice (some ⟨g, 0, none⟩) L cap)) (updN ps k (ps k ++ qs)) N := by
 obtain ⟨cs, hO⟩ := h.blk
 have hOlt := h.lt
 have hO3 : W3.heap[O]? = some (.cells cs 72) := (hg.block O hOlt (h.own_ne hk)).trans hO
 have hc3 : ∀ i, i < m → W3.cell? ⟨O, i, none⟩ = some (vs i) := fun i hi => hg.cell (h.cell i hi) (h.own_ne hk)
 have hgO : g ≠ O := by
  intro e
  rcases hown.2 with ⟨e1, -⟩ | ⟨g', cap', cur, e1, -, hh, -⟩
  ·cases e1
  ·simp only [Value.slice.injEq, Option.some.injEq, Addr.mk.injEq, and_true] at e1
   rw [← e1.1, e, hO3] at hh
   simp only [Option.some.injEq, Obj.cells.injEq] at hh
   exact absurd hh.2.1 (by decide)
 have hslice : ∃ o l c, vs k = .slice o l c := by
  rcases (h.grow k hk).1.2 with ⟨e1, -⟩ | ⟨g', cap', cur, e1, -⟩
  ·exact ⟨_, _, _, e1⟩
  ·exact ⟨_, _, _, e1⟩
 have hu : ∀ z, vs k ≠ .int .u32 z := fun z e => by
  obtain ⟨o, l, c, e1⟩ := hslice
  rw [e1] at e; cases e
 have hnum : ∀ p : Nm × Int, NumL W p.1.val p.2 N → apart (vs k).ownBlock p.1.sl → NumL (W3.setCell ⟨O, k, none⟩ (.slice (some ⟨g, 0, none⟩) L cap)) p.1.val p.2 N := fun p h1 h2 => (h1.grown hg h2).setCell (hc3 k hk) hu
 have hnew : ∀ p : Nm × Int, NumL W p.1.val p.2 N → apart (vs k).ownBlock p.1.sl → apart (some g) p.1.sl := fun p h1 h2 a l c e h0 hb => by
  rcases hat with hat | hat
  ·exact h2 a l c e h0 (hb.trans hat.symm)
  ·have := h1.inside a l c e h0
   simp only [Option.some.injEq] at hb
   omega
 have hall : ∀ i, i < m → ∀ p ∈ updN ps k (ps k ++ qs) i, NumL W p.1.val p.2 N ∧ ∀ j, j < m → apart (vs j).ownBlock p.1.sl := fun i hi p hp => by
  by_cases e : i = k
  ·rw [e, updN_self] at hp
   rcases List.mem_append.1 hp with hp | hp
   ·exact ⟨((h.grow k hk).2 p hp).1, fun j hj => h.lim k j hk hj p hp⟩
   ·exact ⟨hq p hp, fun j hj => hqa j hj p hp⟩
  ·rw [updN_ne _ _ _ e] at hp
   exact ⟨((h.grow i hi).2 p hp).1, fun j hj => h.lim i j hi hj p hp⟩
 have hlim : ∀ i j, i < m → j < m → ∀ p ∈ updN ps k (ps k ++ qs) i, apart (updN vs k (.slice (some ⟨g, 0, none⟩) L cap) j).ownBlock p.1.sl := fun i j hi hj p hp => by
  obtain ⟨h1, h2⟩ := hall i hi p hp
  by_cases e : j = k
  ·rw [e, updN_self]; exact hnew p h1 (h2 k hk)
  ·rw [updN_ne _ _ _ e]; exact h2 j hj
 have hheap : ∀ b, b ≠ O → (W3.setCell ⟨O, k, none⟩ (.slice (some ⟨g, 0, none⟩) L cap)).heap[b]? = W3.heap[b]? := fun b hb => heap_setCell_other _ _ b _ (fun e => hb e)
 have hb3 : Below w.heap.size w W3 := h.low.grown hg h.low.size (fun b hb => ((h.grow k hk).1.lt b hb).1)
 refine ⟨hb3.setCell (p := ⟨O, k, none⟩) h.high _, h.high, ⟨_, heap_setCell_same W3 O k _ _ _ hO3⟩, fun i hi => ?_, fun i hi => ⟨?_, fun p hp => ⟨?_, hlim i i hi hi p hp⟩⟩, fun i j hi hj hij b h1 h2 => ?_, hlim⟩
 ·by_cases e : i = k
  ·rw [e, updN_self]; exact World.cell?_setCell_same (h := hc3 k hk) ..
  ·rw [updN_ne _ _ _ e]; exact (World.cell?_setCell_other (h := fun e' => by simp at e' <;> omega) ..).trans (hc3 i hi)
 ·by_cases e : i = k
  ·rw [e, updN_self, updN_self, List.length_append, ← hL, List.flatMap_append]
   exact ownsRow_block hown fun b hb => hheap b (by
    simp only [Value.ownBlock, Option.some.injEq] at hb
    omega)
  ·rw [updN_ne _ _ _ e, updN_ne _ _ _ e]
   refine ownsRow_block (h.grow i hi).1 fun b hb => (hheap b fun e' => h.own_ne hi (by rw [hb, e'])).trans ?_
   exact hg.block b (own_lt (h.grow i hi) hb) fun e' => h.two i k hi hk e b hb e'.symm
 ·obtain ⟨h1, h2⟩ := hall i hi p hp
  exact hnum p h1 (h2 k hk)
 ·by_cases e : i = k
  ·rw [e, updN_self] at h1
   have ej : j ≠ k := by omega
   rw [updN_ne _ _ _ ej] at h2
   simp only [Value.ownBlock, Option.some.injEq] at h1
   rcases hat with hat | hat
   ·exact h.two k j hk hj (by omega) b (by rw [hat, h1]) h2
   ·have := own_lt (h.grow j hj) h2
    omega
  ·rw [updN_ne _ _ _ e] at h1
   by_cases ej : j = k
   ·rw [ej, updN_self] at h2
    simp only [Value.ownBlock, Option.some.injEq] at h2
    rcases hat with hat | hat
    ·exact h.two k i hk hi (by omega) b (by rw [hat, h2]) h1
    ·have := own_lt (h.grow i hi) h1
     omega
   ·rw [updN_ne _ _ _ ej] at h2
    exact h.two i j hi hj hij b h1 h2

theorem OutG.mat {w W : World} {O m : Nat} {vs : Nat → Value} {ps : Nat → List (Nm × Int)} {N : Nat} (h : OutG w W O m vs ps N) (zss : List (List Int)) (hl : zss.length = m) (hz : ∀ i, i < m → (ps i).map (·.2) = zss.getD i []) : MatN W (.slice (some ⟨O, 0, none⟩) m m) zss N := by
 subst hl
 refine ⟨_, _, rfl, Nat.le_refl _, fun h0 => ⟨_, _, rfl, h.lt, fun i zs hi => ?_⟩⟩
 obtain ⟨hi', e⟩ := List.getElem?_eq_some_iff.1 hi
 refine ⟨vs i, by rw [Nat.zero_add]; exact h.cell i hi', ?_⟩
 have := (h.grow i hi').vec
 rw [hz i hi', getD_row hi', e] at this
 exact this

theorem OutG.old {w W : World} {O m : Nat} {vs : Nat → Value} {ps : Nat → List (Nm × Int)} {N : Nat} (h : OutG w W O m vs ps N) {r : Nm} {z : Int} {n : Nat} (hr : NumL w r.val z n) {i : Nat} (hi : i < m) : apart (vs i).ownBlock r.sl := fun a l c e h0 hb => by
 have h1 := hr.inside a l c e h0
 have h2 := ((h.grow i hi).1.lt a.block hb.symm).1
 omega

end Go.Proofs.YtdedolkgcdlmeaaGreatDoor

/- mat.turned: rows become places, and places rows. -/
namespace Go.Proofs.YtdedolkgcdlmeaaGreatDoor
open Go.RowKit Limbs

theorem run_mkMat (m : Nat) (hm : m ≤ 1000) (W : World) : (Instr.makeSlice 23 (.int .i64 (m : Int)) (.int .i64 (m : Int))).run Tryz.prog W = .ok (.slice (some ⟨W.heap.size, 0, none⟩) m m) (W.alloc (.cells (madeCells #[.slice none 0 0] m) 72)) := by
 obtain ⟨i0, hi, hz0, hz1, hz2⟩ := info_parts Tryz.infoVec
 have h := run_make (P := Tryz.prog) W 23 72 i0 (.slice none 0 0) (by kernel_rfl) hi hz0 .i64 .i64 m m (by omega) (by omega) (by rw [hz2]; omega) (by omega)
 rw [hz1, Int.toNat_natCast, Nat.mul_one] at h
 exact h

def colL (hs : List (List Int)) (k : Nat) : List Int := hs.map fun r => r.getD k 0

set_option linter.unusedSimpArgs false in
set_option maxRecDepth 100000 in
set_option maxHeartbeats 4000000 in
theorem turned_any (w : World) (va : Value) (n nv : Nat) (hs : List (List Int)) (ha : MatN w va hs nv) (hl : ∀ r ∈ hs, r.length = n) (hn : n ≤ 100) (hm : hs.length ≤ 100) :
  Calls Tryz.prog 65 #[va, .int .i64 (n : Int)] w fun e w' => ∃ O vs ps, e = .returned (.slice (some ⟨O, 0, none⟩) n n) ∧ OutG w w' O n vs ps nv ∧ ∀ i, i < n → (ps i).map (·.2) = colL hs i := by
 obtain ⟨i0, hi, hz0, hz1, hz2⟩ := info_parts Tryz.infoNum
 have HA := hide ha; have HL := hide hl
 obtain ⟨ao, acap, rfl, -, -⟩ := ha
 clear hl
 have hmk := run_mkMat n (by omega)
 have HO0 := hide (OutG.start (Below.refl w.heap.size w) n nv)
 go_enter Tryz.func65, Tryz.ntmps65
 go_wp2
 clear hmk
 go_loopw [11] (fun x wr => ∃ (k : Nat) (vs : Nat → Value) (ps : Nat → List (Nm × Int)), k ≤ n ∧ x = .int .i64 k ∧ Hid (OutG w wr w.heap.size n vs ps nv) ∧ Hid (∀ i, i < k → (ps i).map (·.2) = colL hs i) ∧ Hid (∀ i, k ≤ i → ps i = [])) (fun x _ => n - (intOf x).toNat)
 case atStart => exact ⟨0, _, _, Nat.zero_le _, rfl, HO0, hide (fun i hi => absurd hi (Nat.not_lt_zero i)), hide (fun _ _ => rfl)⟩
 case round =>
  clear HO0
  obtain ⟨k, vs, ps, hk, rfl, HO, HD, HE⟩ := hrel
  by_cases hkl : k < n
  ·go_wp2
   go_loopw [16] (fun y wr => ∃ (q : Nat) (vs : Nat → Value) (ps : Nat → List (Nm × Int)), q ≤ hs.length ∧ y = .int .i64 q ∧ Hid (OutG w wr w.heap.size n vs ps nv) ∧ Hid (∀ i, i < k → (ps i).map (·.2) = colL hs i) ∧ Hid ((ps k).map (·.2) = colL (hs.take q) k) ∧ Hid (∀ i, k < i → ps i = [])) (fun y _ => hs.length - (intOf y).toNat)
   case atStart => exact ⟨0, _, _, Nat.zero_le _, rfl, HO, HD, hide (by rw [HE.out k (Nat.le_refl _)]; rfl), hide (fun i hi => HE.out i (Nat.le_of_lt hi))⟩
   case round =>
    clear HO HD HE vs ps
    obtain ⟨q, vs, ps, hq, rfl, HO, HD, HM, HE⟩ := hrel
    by_cases hql : q < hs.length
    ·obtain ⟨rb, roff, _, e, lr, ru, cu, hru⟩ := HA.out.at q hql
     simp only [Value.slice.injEq, true_and] at e
     obtain ⟨rfl, rfl⟩ := e
     have hul : hs[q].length = n := HL.out _ (List.getElem_mem hql)
     have HTK : Hid (colL (hs.take (q + 1)) k = colL (hs.take q) k ++ [hs[q].getD k 0]) := by
      show _ = _
      unfold colL
      rw [List.take_succ_eq_append_getElem hql, List.map_append]; rfl
     obtain ⟨vb, voff, vcap, rfl⟩ := hru.form (by omega)
     obtain ⟨lv, neg, lo, ll, lc, z0, z1, nz⟩ := hru.at k (by omega)
     have c9 := (HO.out.low.cell (p := ⟨rb, roff + q, none⟩) lr).trans cu
     have c12 := (HO.out.low.cell (p := ⟨vb, voff + k * 2, none⟩) lv).trans z0
     have c13 := (HO.out.low.cell (p := ⟨vb, voff + k * 2 + 1, none⟩) lv).trans z1
     have HNZ : Hid (NumL w (Nm.val ⟨neg, lo, ll, lc⟩) (hs[q].getD k 0) nv) := nz
     have HPL : Hid ((ps k).length = q) := by
      have h1 := congrArg List.length HM.out
      unfold colL at h1
      rw [List.length_map, List.length_map, List.length_take] at h1
      show _ = _
      omega
     rw [hul] at c9
     clear hru cu z0 z1 nz hul
     generalize hs[q].getD k 0 = z at *
     have c5 := HO.out.cell k hkl
     have HC5 := hide c5
     obtain ⟨vo, vl, vc, hvk⟩ : ∃ vo vl vc, vs k = .slice vo vl vc := by
      rcases (HO.out.grow k hkl).1.2 with ⟨e1, -⟩ | ⟨g', cap', cur, e1, -⟩
      ·exact ⟨_, _, _, e1⟩
      ·exact ⟨_, _, _, e1⟩
     rw [hvk] at c5
     have hOlt := HO.out.lt
     have hfO := HO.out.thaw k
     have HVK := hide hvk
     clear hvk
     have HOA := hide (HO.out.later (W' := wr.drew.alloc (.cells #[.bool neg, .slice lo ll lc] 29)) ((Below.refl _ _).drew.alloc (Nat.le_refl _) _))
     have hrb : rb < wr.heap.size := Nat.lt_of_lt_of_le lr HO.out.low.size
     have hvb : vb < wr.heap.size := Nat.lt_of_lt_of_le lv HO.out.low.size
     have HRB : Hid (some rb ≠ (vs k).ownBlock) := fun e => by have := ((HO.out.grow k hkl).1.lt rb e.symm).1; omega
     have HVB : Hid (some vb ≠ (vs k).ownBlock) := fun e => by have := ((HO.out.grow k hkl).1.lt vb e.symm).1; omega
     have HON := hide (HO.out.own_ne hkl)
     have hws := HO.out.low.size
     go_wp2_with fail
     refine upto_start (S := (fun w' => w'.cell? ⟨w.heap.size, k, none⟩ = some (.slice vo vl vc) ∧ w'.cell? ⟨rb, roff + q, none⟩ = some (.slice (some ⟨vb, voff, none⟩) n vcap) ∧ w'.cell? ⟨vb, voff + k * 2, none⟩ = some (.bool neg) ∧ w'.cell? ⟨vb, voff + k * 2 + 1, none⟩ = some (.slice lo ll lc))) (k := 16) (by kernel_rfl) (by exact ⟨c5, c9, c12, c13⟩) (fun hHeld => ?_)
     refine upto_run (v := ?_) 0 19 [16] rfl rfl (by kernel_rfl) (by kernel_rfl) (by kernel_rfl) (by kernel_rfl) (by kernel_rfl) (fun _ _ _ h => h) (by rfl) ?_ (by assumption) ?_
     rotate_left
     ·(intro w hSw; (try dsimp only at hSw); obtain ⟨hS1, hS2, hS3, hS4⟩ := hSw; go_simp; with_reducible rfl)
     simp only [Act.put, List.setIfInBounds_toArray, List.set_cons_zero, List.set_cons_succ]
     refine upto_run (v := ?_) 1 20 [16] rfl rfl (by kernel_rfl) (by kernel_rfl) (by kernel_rfl) (by kernel_rfl) (by kernel_rfl) (fun _ _ _ h => h) (by rfl) ?_ (by assumption) ?_
     rotate_left
     ·(intro w hSw; (try dsimp only at hSw); obtain ⟨hS1, hS2, hS3, hS4⟩ := hSw; go_simp; with_reducible rfl)
     simp only [Act.put, List.setIfInBounds_toArray, List.set_cons_zero, List.set_cons_succ]
     refine upto_run (v := ?_) 2 21 [16] rfl rfl (by kernel_rfl) (by kernel_rfl) (by kernel_rfl) (by kernel_rfl) (by kernel_rfl) (fun _ _ _ h => h) (by rfl) ?_ (by assumption) ?_
     rotate_left
     ·(intro w hSw; (try dsimp only at hSw); obtain ⟨hS1, hS2, hS3, hS4⟩ := hSw; go_simp; with_reducible rfl)
     simp only [Act.put, List.setIfInBounds_toArray, List.set_cons_zero, List.set_cons_succ]
     refine upto_run (v := ?_) 3 22 [16] rfl rfl (by kernel_rfl) (by kernel_rfl) (by kernel_rfl) (by kernel_rfl) (by kernel_rfl) (fun _ _ _ h => h) (by rfl) ?_ (by assumption) ?_
     rotate_left
     ·(intro w hSw; (try dsimp only at hSw); obtain ⟨hS1, hS2, hS3, hS4⟩ := hSw; go_simp; with_reducible rfl)
     simp only [Act.put, List.setIfInBounds_toArray, List.set_cons_zero, List.set_cons_succ]
     refine upto_run (v := ?_) 4 23 [16] rfl rfl (by kernel_rfl) (by kernel_rfl) (by kernel_rfl) (by kernel_rfl) (by kernel_rfl) (fun _ _ _ h => h) (by rfl) ?_ (by assumption) ?_
     rotate_left
     ·(intro w hSw; (try dsimp only at hSw); obtain ⟨hS1, hS2, hS3, hS4⟩ := hSw; go_simp; with_reducible rfl)
     simp only [Act.put, List.setIfInBounds_toArray, List.set_cons_zero, List.set_cons_succ]
     refine upto_run (v := ?_) 5 24 [16] rfl rfl (by kernel_rfl) (by kernel_rfl) (by kernel_rfl) (by kernel_rfl) (by kernel_rfl) (fun _ _ _ h => h) (by rfl) ?_ (by assumption) ?_
     rotate_left
     ·(intro w hSw; (try dsimp only at hSw); obtain ⟨hS1, hS2, hS3, hS4⟩ := hSw; go_simp; with_reducible rfl)
     simp only [Act.put, List.setIfInBounds_toArray, List.set_cons_zero, List.set_cons_succ]
     refine upto_run (v := ?_) 6 25 [16] rfl rfl (by kernel_rfl) (by kernel_rfl) (by kernel_rfl) (by kernel_rfl) (by kernel_rfl) (fun _ _ _ h => h) (by rfl) ?_ (by assumption) ?_
     rotate_left
     ·(intro w hSw; (try dsimp only at hSw); obtain ⟨hS1, hS2, hS3, hS4⟩ := hSw; go_simp; with_reducible rfl)
     simp only [Act.put, List.setIfInBounds_toArray, List.set_cons_zero, List.set_cons_succ]
     refine upto_run (v := ?_) 7 26 [16] rfl rfl (by kernel_rfl) (by kernel_rfl) (by kernel_rfl) (by kernel_rfl) (by kernel_rfl) (fun _ _ _ h => h) (by rfl) ?_ (by assumption) ?_
     rotate_left
     ·(intro w hSw; (try dsimp only at hSw); obtain ⟨hS1, hS2, hS3, hS4⟩ := hSw; go_simp; with_reducible rfl)
     simp only [Act.put, List.setIfInBounds_toArray, List.set_cons_zero, List.set_cons_succ]
     refine upto_run (v := ?_) 8 27 [16] rfl rfl (by kernel_rfl) (by kernel_rfl) (by kernel_rfl) (by kernel_rfl) (by kernel_rfl) (fun _ _ _ h => h) (by rfl) ?_ (by assumption) ?_
     rotate_left
     ·(intro w hSw; (try dsimp only at hSw); obtain ⟨hS1, hS2, hS3, hS4⟩ := hSw; go_simp; with_reducible rfl)
     simp only [Act.put, List.setIfInBounds_toArray, List.set_cons_zero, List.set_cons_succ]
     refine upto_run (v := ?_) 9 28 [16] rfl rfl (by kernel_rfl) (by kernel_rfl) (by kernel_rfl) (by kernel_rfl) (by kernel_rfl) (fun _ _ _ h => h) (by rfl) ?_ (by assumption) ?_
     rotate_left
     ·(intro w hSw; (try dsimp only at hSw); obtain ⟨hS1, hS2, hS3, hS4⟩ := hSw; go_simp; with_reducible rfl)
     simp only [Act.put, List.setIfInBounds_toArray, List.set_cons_zero, List.set_cons_succ]
     refine upto_run (v := ?_) 10 29 [16] rfl rfl (by kernel_rfl) (by kernel_rfl) (by kernel_rfl) (by kernel_rfl) (by kernel_rfl) (fun _ _ _ h => h) (by rfl) ?_ (by assumption) ?_
     rotate_left
     ·(intro w hSw; (try dsimp only at hSw); obtain ⟨hS1, hS2, hS3, hS4⟩ := hSw; go_simp; with_reducible rfl)
     simp only [Act.put, List.setIfInBounds_toArray, List.set_cons_zero, List.set_cons_succ]
     refine upto_run (v := ?_) 11 30 [16] rfl rfl (by kernel_rfl) (by kernel_rfl) (by kernel_rfl) (by kernel_rfl) (by kernel_rfl) (fun _ _ _ h => h) (by rfl) ?_ (by assumption) ?_
     rotate_left
     ·(intro w hSw; (try dsimp only at hSw); obtain ⟨hS1, hS2, hS3, hS4⟩ := hSw; go_simp; with_reducible rfl)
     simp only [Act.put, List.setIfInBounds_toArray, List.set_cons_zero, List.set_cons_succ]
     refine upto_run (v := ?_) 12 31 [16] rfl rfl (by kernel_rfl) (by kernel_rfl) (by kernel_rfl) (by kernel_rfl) (by kernel_rfl) (fun _ _ _ h => h) (by rfl) ?_ (by assumption) ?_
     rotate_left
     ·(intro w hSw; (try dsimp only at hSw); obtain ⟨hS1, hS2, hS3, hS4⟩ := hSw; go_simp; with_reducible rfl)
     simp only [Act.put, List.setIfInBounds_toArray, List.set_cons_zero, List.set_cons_succ]
     refine upto_one 13 (by kernel_rfl) rfl (fun K hK => ?_)
     go_simp
     have hbA : Below wr.heap.size wr (wr.drew.alloc (.cells #[.bool neg, .slice lo ll lc] 29)) := (Below.refl _ _).drew.alloc (Nat.le_refl _) _
     have d5 := (hbA.cell (p := ⟨w.heap.size, k, none⟩) hOlt).trans c5
     have d9 := (hbA.cell (p := ⟨rb, roff + q, none⟩) hrb).trans c9
     have d12 := (hbA.cell (p := ⟨vb, voff + k * 2, none⟩) hvb).trans c12
     have d13 := (hbA.cell (p := ⟨vb, voff + k * 2 + 1, none⟩) hvb).trans c13
     refine hK.out _ _ (fun _ => ⟨d5, d9, d12, d13⟩) ?_
     clear hK K
     try simp only [Act.put, List.setIfInBounds_toArray, List.set_cons_zero, List.set_cons_succ]
     refine upto_one 14 (by kernel_rfl) rfl (fun K hK => ?_)
     refine step_append_lies _ rfl (.tmp 24) (.tmp 32) 72 rfl w.heap.size 29 i0 (.agg #[.bool false, .slice none 0 0]) 2 32 (by kernel_rfl) hi hz0 hz1 hz2 rfl (by decide) (.slice vo vl vc) (ps k).length ((ps k).flatMap ncells) rfl (by have := (HOA.out.grow k hkl).1; rw [HVK.out] at this; exact this) ⟨wr.heap.size, 0, none⟩ 1 1 [.bool neg, .slice lo ll lc] rfl rfl (World.news_of_block (heap_alloc_new wr.drew _)) (fun u hu => by simp only [List.mem_cons, List.mem_nil_iff, or_false] at hu; rcases hu with rfl | rfl <;> rfl) (by decide) (by unfold maxLen; have := HPL.out; omega) (by have := HPL.out; omega) (by simp; omega) (wr.heap.size + 1) (by simp) ?_
     intro g5 cap5 w5 hown5 hgrow5 hat5 hlt5
     have HO5 := hide hown5; have HG5 := hide hgrow5; have HA5 := hide hat5
     clear hown5 hgrow5 hat5 hlt5
     have e5 := HG5.out.cell d5 (by rw [← HVK.out]; exact HON.out)
     have e9 := HG5.out.cell d9 (by rw [← HVK.out]; exact HRB.out)
     have e12 := HG5.out.cell d12 (by rw [← HVK.out]; exact HVB.out)
     have e13 := HG5.out.cell d13 (by rw [← HVK.out]; exact HVB.out)
     refine hK.out _ _ (fun _ => ⟨e5, e9, e12, e13⟩) ?_
     clear hK K
     simp only [Act.put, List.setIfInBounds_toArray, List.set_cons_zero, List.set_cons_succ]
     have hHeld5 : (fun w' => w'.cell? ⟨w.heap.size, k, none⟩ = some (.slice vo vl vc) ∧ w'.cell? ⟨rb, roff + q, none⟩ = some (.slice (some ⟨vb, voff, none⟩) n vcap) ∧ w'.cell? ⟨vb, voff + k * 2, none⟩ = some (.bool neg) ∧ w'.cell? ⟨vb, voff + k * 2 + 1, none⟩ = some (.slice lo ll lc)) w5 := ⟨e5, e9, e12, e13⟩
     clear hHeld
     refine upto_run (v := ?_) 15 34 [16] rfl rfl (by kernel_rfl) (by kernel_rfl) (by kernel_rfl) (by kernel_rfl) (by kernel_rfl) (fun _ _ _ h => h) (by rfl) ?_ (by assumption) ?_
     rotate_left
     ·(intro w hSw; (try dsimp only at hSw); obtain ⟨hS1, hS2, hS3, hS4⟩ := hSw; go_simp; with_reducible rfl)
     simp only [Act.put, List.setIfInBounds_toArray, List.set_cons_zero, List.set_cons_succ]
     have HP := hide (HOA.out.push hkl [(⟨neg, lo, ll, lc⟩, z)] (fun p hp => by rw [List.mem_singleton] at hp; subst hp; exact HNZ.out.below HOA.out.low (Nat.le_refl _)) (fun i hi p hp => by rw [List.mem_singleton] at hp; subst hp; exact HOA.out.old HNZ.out hi) (L := (ps k).length + 1) rfl (by have := HO5.out; simpa [ncells] using this) (by rw [HVK.out]; exact HG5.out) (by rw [HVK.out]; exact HA5.out.imp id fun h => by rw [h]; simp))
     have ef : w5.frozen? ⟨w.heap.size, k, none⟩ = false := by
      have h1 := HOA.out.thaw k
      rw [World.frozen?_of_block (a := ⟨w.heap.size, k, none⟩) (HG5.out.block w.heap.size HOA.out.lt (by rw [← HVK.out]; exact HON.out))]
      exact h1
     refine upto_one 16 (by kernel_rfl) rfl (fun K hK => ?_)
     go_simp
     refine hK.out _ _ (fun h => absurd h (by decide)) ?_
     clear hK K
     try simp only [Act.put, List.setIfInBounds_toArray, List.set_cons_zero, List.set_cons_succ]
     refine upto_done (by kernel_rfl) ?_
     have HD' : Hid (∀ i, i < k → (updN ps k (ps k ++ [(⟨neg, lo, ll, lc⟩, z)]) i).map (·.2) = colL hs i) := fun i hi => by rw [updN_ne _ _ _ (by omega)]; exact HD.out i hi
     have HM' : Hid ((updN ps k (ps k ++ [(⟨neg, lo, ll, lc⟩, z)]) k).map (·.2) = colL (hs.take (q + 1)) k) := by
      show _ = _
      rw [updN_self, List.map_append, HM.out, HTK.out]; rfl
     have HE' : Hid (∀ i, k < i → updN ps k (ps k ++ [(⟨neg, lo, ll, lc⟩, z)]) i = []) := fun i hi => by rw [updN_ne _ _ _ (by omega)]; exact HE.out i hi
     clear c5 c9 c12 c13 d5 d9 d12 d13 e5 e9 e12 e13 ef HO5 HG5 HA5 HOA HO HD HM HE hHeld5
     go_wp2
     go_roundw
     case rel => exact ⟨q + 1, _, _, by omega, by go_num, HP, HD', HM', HE'⟩
     case measure => simp [intOf]; omega
    ·obtain rfl : q = hs.length := by omega
     rw [List.take_length] at HM
     have HD' : Hid (∀ i, i < k + 1 → (ps i).map (·.2) = colL hs i) := fun i hi => by
      by_cases e : i = k
      ·rw [e]; exact HM.out
      ·exact HD.out i (by omega)
     clear HD HM
     go_wp2
     go_roundw
     case rel => exact ⟨k + 1, _, _, by omega, by go_num, HO, HD', hide (fun i hi => HE.out i (by omega))⟩
     case measure => simp [intOf]; omega
  ·obtain rfl : k = n := by omega
   go_wp2
   go_ret
   exact ⟨_, _, _, rfl, HO.out, HD.out⟩

end Go.Proofs.YtdedolkgcdlmeaaGreatDoor

/- mat.Smith of what rows make nought of: nothing but 1. -/
namespace Go.Proofs.YtdedolkgcdlmeaaGreatDoor
open Go.RowKit Limbs

def Dual (ks : List (List Int)) (n : Nat) : Prop := ∀ i, i < ks.length → ∃ w : Nat → Int, ∀ l, l < ks.length → sumN n (fun j => ent ks l j * w j) = if l = i then 1 else 0

theorem VecO.ones {w W : World} {P r n : Nat} (h : VecO w W P (List.replicate r 1) n) : VecO w W P (List.replicate r 1) 2 :=
 ⟨h.vec.tight fun j hj => by rw [List.length_replicate] at hj; rw [ones_get r j hj]; decide, h.low, h.below, h.blk⟩

def SmPost (w : World) (r : Nat) (e : Ending) (w' : World) : Prop :=
 ∃ P, e = .returned (.tuple #[.slice (some ⟨P, 0, none⟩) r r, .nilIface]) ∧ VecO w w' P (List.replicate r 1) 2

end Go.Proofs.YtdedolkgcdlmeaaGreatDoor
