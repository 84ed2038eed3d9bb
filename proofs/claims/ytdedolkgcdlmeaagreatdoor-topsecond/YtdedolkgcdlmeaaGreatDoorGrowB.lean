/- Rows of the reference that grow, and are replaced in their place. -/
import Derived.Test.YtdedolkgcdlmeaaGreatDoorStairR
import Derived.Laws.OwnMore
namespace Go.Proofs.YtdedolkgcdlmeaaGreatDoor
open Go.RowKit Limbs Digs

structure GrowB (W : World) (base : Nat) (v : Value) (qs : List (Value × List Int)) (nb : Nat → Nat) : Prop where
  own : W.ownsRow base 106 1 v qs.length (qs.map (·.1))
  row : ∀ j q, qs[j]? = some q → RowR W q.1 q.2 (nb j)

theorem GrowB.nil (W : World) (base : Nat) (nb : Nat → Nat) : GrowB W base (.slice none 0 0) [] nb := ⟨World.ownsRow_nil _ _ _ _, fun j q h => by simp at h⟩

theorem GrowB.later {W W' : World} {base : Nat} {v : Value} {qs : List (Value × List Int)} {nb : Nat → Nat} (h : GrowB W base v qs nb) (hb : Below W.heap.size W W') : GrowB W' base v qs nb :=
  ⟨ownsRow_later h.own hb, fun j q e => (h.row j q e).below hb (Nat.le_refl _)⟩

theorem GrowB.mono {W : World} {base : Nat} {v : Value} {qs : List (Value × List Int)} {nb nb' : Nat → Nat} (h : GrowB W base v qs nb) (hn : ∀ j, j < qs.length → nb j ≤ nb' j) : GrowB W base v qs nb' :=
  ⟨h.own, fun j q e => (h.row j q e).mono (hn j (List.getElem?_eq_some_iff.1 e).1)⟩

theorem GrowB.form {W : World} {base : Nat} {v : Value} {qs : List (Value × List Int)} {nb : Nat → Nat} (h : GrowB W base v qs nb) : ∃ o cap, v = .slice o qs.length cap ∧ (0 < qs.length → ∃ g, o = some ⟨g, 0, none⟩) := by
  rcases h.own.2 with ⟨rfl, hn⟩ | ⟨g, cap, cur, rfl, -⟩
  · exact ⟨none, 0, by rw [hn], fun h => by omega⟩
  · exact ⟨_, cap, rfl, fun _ => ⟨g, rfl⟩⟩

theorem GrowB.cell {W : World} {base g cap : Nat} {qs : List (Value × List Int)} {nb : Nat → Nat} (h : GrowB W base (.slice (some ⟨g, 0, none⟩) qs.length cap) qs nb) {j : Nat} {q : Value × List Int} (e : qs[j]? = some q) : W.cell? ⟨g, j, none⟩ = some q.1 ∧ g < W.heap.size ∧ base ≤ g ∧ W.frozen? ⟨g, j, none⟩ = false ∧ ∃ cs, W.heap[g]? = some (.cells cs 106) := by
  rcases h.own.2 with ⟨e', -⟩ | ⟨g', cap', cur, e', hb, hh, hc1, hc2, hc3, hc4⟩
  · cases e'
  · simp only [Value.slice.injEq, Option.some.injEq, Addr.mk.injEq, and_true, true_and] at e'
    obtain ⟨rfl, rfl⟩ := e'
    refine ⟨?_, heap_lt hh, hb, by simp [World.frozen?, hh], cur, hh⟩
    have := World.news_of_block hh j q.1 (by
      have hj := (List.getElem?_eq_some_iff.1 e).1
      have e2 : (qs.map (·.1))[j]? = some q.1 := by rw [List.getElem?_map, e]; rfl
      rw [← hc4, List.getElem?_take, if_pos (by omega)] at e2
      exact e2)
    have ea : (⟨g, 0, none⟩ : Addr).add j = ⟨g, j, none⟩ := by unfold Addr.add; split <;> simp_all
    rwa [ea] at this

theorem GrowB.set {W : World} {base g cap : Nat} {qs : List (Value × List Int)} {nb : Nat → Nat} (h : GrowB W base (.slice (some ⟨g, 0, none⟩) qs.length cap) qs nb) {j d : Nat} (hj : j < qs.length) {u : Value} {zs : List Int} (hz : RowR W u zs d) :
    GrowB (W.setCell ⟨g, j, none⟩ u) base (.slice (some ⟨g, 0, none⟩) (qs.set j (u, zs)).length cap) (qs.set j (u, zs)) (fun i => if i = j then d else nb i) := by
  obtain ⟨-, -, -, -, cs, hcs⟩ := h.cell (List.getElem?_eq_getElem hj)
  refine ⟨?_, fun i q e => ?_⟩
  · rw [List.length_set, List.map_set]
    exact (h.own.stored j u).1
  · rw [List.getElem?_set] at e
    by_cases hij : j = i
    · rw [if_pos hij, if_pos hj] at e
      obtain rfl := Option.some.inj e
      rw [if_pos hij.symm]
      exact hz.setTyped hcs (by decide) (by decide) _ _
    · rw [if_neg hij] at e
      rw [if_neg (fun e => hij e.symm)]
      exact (h.row i q e).setTyped hcs (by decide) (by decide) _ _

theorem growB_snoc {base : Nat} {W w' : World} {v : Value} {qs : List (Value × List Int)} {nb : Nat → Nat} {u : Value} {zs : List Int} {g cap d : Nat} (h : GrowB W base v qs nb) (hz : RowR W u zs d)
    (hown : w'.ownsRow base 106 1 (.slice (some ⟨g, 0, none⟩) (qs.length + 1) cap) (qs.length + 1) (qs.map (·.1) ++ [u]))
    (hg : W.grownBy w' v.ownBlock) : GrowB w' base (.slice (some ⟨g, 0, none⟩) (qs.length + 1) cap) (qs ++ [(u, zs)]) (fun i => if i < qs.length then nb i else d) := by
  have hty : Typed W v.ownBlock [3, 40] := ownsRow_typed h.own (by decide)
  refine ⟨by rw [List.length_append, List.length_singleton, List.map_append]; exact hown, fun i q e => ?_⟩
  by_cases hi : i < qs.length
  · rw [List.getElem?_append_left hi] at e
    rw [if_pos hi]
    exact (h.row i q e).grown hg hty
  · rw [List.getElem?_append_right (by omega)] at e
    have h0 : i - qs.length = 0 := by
      have := (List.getElem?_eq_some_iff.1 e).1
      simpa using this
    rw [h0] at e
    simp only [List.getElem?_cons_zero, Option.some.injEq] at e
    rw [if_neg hi, ← e]
    exact hz.grown hg hty

theorem GrowB.mat {W : World} {base : Nat} {v : Value} {qs : List (Value × List Int)} {nb : Nat → Nat} {d : Nat} (h : GrowB W base v qs nb) (hd : ∀ j, j < qs.length → nb j ≤ d) : MatR W v (qs.map (·.2)) d := by
  have hg : GrowM W base v qs d := ⟨h.own, fun q hq => by
    obtain ⟨j, hj, e⟩ := List.getElem_of_mem hq
    exact (h.row j q (by rw [List.getElem?_eq_getElem hj, e])).mono (hd j hj)⟩
  exact hg.mat

/-- Rows so far: the first ones are lowered. -/
def partL (L : List (List Int)) (p : List Int) (c i : Nat) : List (List Int) := (L.take i).map (fun u => lowRow u p c) ++ L.drop i

theorem partL_zero (L : List (List Int)) (p : List Int) (c : Nat) : partL L p c 0 = L := by simp [partL]

theorem partL_all (L : List (List Int)) (p : List Int) (c : Nat) : partL L p c L.length = L.map (fun u => lowRow u p c) := by simp [partL]

theorem partL_at {L : List (List Int)} {p : List Int} {c i : Nat} (hi : i < L.length) : (partL L p c i)[i]? = some L[i] := by
  unfold partL
  rw [List.getElem?_append_right (by simp; omega), List.length_map, List.length_take, Nat.min_eq_left (by omega), Nat.sub_self, List.getElem?_drop, Nat.add_zero, List.getElem?_eq_getElem hi]

theorem partL_set {L : List (List Int)} {p : List Int} {c i : Nat} (hi : i < L.length) : (partL L p c i).set i (lowRow L[i] p c) = partL L p c (i + 1) := by
  unfold partL
  rw [List.set_append_right _ _ (by simp; omega), List.length_map, List.length_take, Nat.min_eq_left (by omega), Nat.sub_self, List.drop_eq_getElem_cons hi, List.set_cons_zero, List.take_succ_eq_append_getElem hi, List.map_append, List.append_assoc]
  rfl

end Go.Proofs.YtdedolkgcdlmeaaGreatDoor
