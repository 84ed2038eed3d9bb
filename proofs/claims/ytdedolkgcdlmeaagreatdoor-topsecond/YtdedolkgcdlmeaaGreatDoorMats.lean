/- Rows of vectors. -/
import Derived.Test.YtdedolkgcdlmeaaGreatDoorVecO
import Derived.Deep.AppendLies
import Derived.OwnWalk
namespace Go.Proofs.YtdedolkgcdlmeaaGreatDoor
open Go.RowKit Limbs

theorem Tryz.infoVec : (Tryz.prog.info? 72).map (fun i => (i.zero, i.size, i.bytes)) = some (some (.slice none 0 0), 1, 24) := by kernel_rfl

theorem ownsRow_later {W W' : World} {base : Nat} {e : TypeId} {size : Nat} {v : Value} {n : Nat} {xs : List Value} (h : W.ownsRow base e size v n xs) (hb : Below W.heap.size W W') : W'.ownsRow base e size v n xs := by
  refine ⟨h.1, ?_⟩
  rcases h.2 with hn | ⟨g, cap, cur, e, hbg, hh, rest⟩
  · exact .inl hn
  · exact .inr ⟨g, cap, cur, e, hbg, (hb.block _ (heap_lt hh)).trans hh, rest⟩

theorem owns_below {base : Nat} {wr w3 : World} {e : TypeId} {size : Nat} {v : Value} {n : Nat} {xs : List Value} {ob : Obj} (h : wr.ownsRow base e size v n xs) (hB : base ≤ wr.heap.size) (hg : (wr.alloc ob).grownBy w3 v.ownBlock) : Below base wr w3 :=
  ((Below.refl _ _).alloc hB _).grown hg (by simp; omega) (fun k hk => (h.lt k hk).1)

/-- Rows of the program's numbers. -/
def MatN (w : World) (v : Value) (zss : List (List Int)) (n : Nat) : Prop :=
  ∃ ao cap, v = .slice ao zss.length cap ∧ zss.length ≤ cap ∧ (0 < zss.length → ∃ b off, ao = some ⟨b, off, none⟩ ∧ b < w.heap.size ∧ ∀ i zs, zss[i]? = some zs → ∃ u, w.cell? ⟨b, off + i, none⟩ = some u ∧ VecN w u zs n)

theorem MatN.below {B : Nat} {w w' : World} {v : Value} {zss : List (List Int)} {n : Nat} (h : MatN w v zss n) (hb : Below B w w') (hB : w.heap.size ≤ B) : MatN w' v zss n := by
  obtain ⟨ao, cap, hv, h1, h2⟩ := h
  refine ⟨ao, cap, hv, h1, fun h0 => ?_⟩
  obtain ⟨b, off, e, hlt, hc⟩ := h2 h0
  refine ⟨b, off, e, Nat.lt_of_lt_of_le hlt hb.size, fun i zs hi => ?_⟩
  obtain ⟨u, h3, h4⟩ := hc i zs hi
  exact ⟨u, (hb.cell (p := ⟨b, off + i, none⟩) (Nat.lt_of_lt_of_le hlt hB)).trans h3, h4.below hb hB⟩

theorem MatN.at {W : World} {v : Value} {zss : List (List Int)} {n : Nat} (h : MatN W v zss n) (i : Nat) (hi : i < zss.length) : ∃ b off cap, v = .slice (some ⟨b, off, none⟩) zss.length cap ∧ b < W.heap.size ∧ ∃ u, W.cell? ⟨b, off + i, none⟩ = some u ∧ VecN W u zss[i] n := by
  obtain ⟨ao, cap, rfl, -, h2⟩ := h
  obtain ⟨b, off, rfl, hlt, hc⟩ := h2 (by omega)
  obtain ⟨u, h3, h4⟩ := hc i zss[i] (by simp [hi])
  exact ⟨b, off, cap, rfl, hlt, u, h3, h4⟩

/-- Rows that grow, and are vectors, are rows of vectors. -/
theorem matN_of_owns {W : World} {base : Nat} {v : Value} {qs : List (Value × List Int)} {n : Nat} (h : W.ownsRow base 72 1 v qs.length (qs.map (·.1))) (h2 : ∀ q ∈ qs, VecN W q.1 q.2 n) : MatN W v (qs.map (·.2)) n := by
  obtain ⟨-, h1⟩ := h
  have hlen : (qs.map (·.2)).length = qs.length := List.length_map ..
  rcases h1 with ⟨rfl, hn⟩ | ⟨g, cap, cur, rfl, hb, hh, hc1, hc2, hc3, hc4⟩
  · exact ⟨none, 0, by rw [hlen, hn], by rw [hlen]; omega, fun h0 => absurd h0 (by rw [hlen]; omega)⟩
  · refine ⟨_, cap, by rw [hlen], by rw [hlen]; exact hc1, fun h0 => ⟨g, 0, rfl, heap_lt hh, fun i zs hi => ?_⟩⟩
    obtain ⟨hi', e⟩ := List.getElem?_eq_some_iff.1 hi
    rw [hlen] at hi'
    have e' : zs = qs[i].2 := by rw [← e, List.getElem_map]
    have := World.news_of_block hh i qs[i].1 (by
      have e : (qs.map (·.1))[i]? = some qs[i].1 := by rw [List.getElem?_map, List.getElem?_eq_getElem hi']; rfl
      rw [← hc4, List.getElem?_take, if_pos (by omega)] at e
      exact e)
    have ea : (⟨g, 0, none⟩ : Addr).add i = ⟨g, i, none⟩ := by unfold Addr.add; split <;> simp_all
    rw [ea] at this
    exact ⟨_, by rw [Nat.zero_add]; exact this, by rw [e']; exact h2 _ (List.getElem_mem hi')⟩

end Go.Proofs.YtdedolkgcdlmeaaGreatDoor
