/- Rows as they came in; which of them are numbers. -/
import Derived.Test.YtdedolkgcdlmeaaGreatDoorLightV
import Derived.Test.YtdedolkgcdlmeaaGreatDoorMats
namespace Go.Proofs.YtdedolkgcdlmeaaGreatDoor
open Go.RowKit Limbs

def Raw.z (r : Raw) : Int := sg r.neg (lv r.zs)

/-- Rows as they came in, light ones. -/
def MatL (w : World) (v : Value) (rss : List (List Raw)) : Prop :=
  ∃ ao cap, v = .slice ao rss.length cap ∧ rss.length ≤ cap ∧ (0 < rss.length → ∃ b off, ao = some ⟨b, off, none⟩ ∧ b < w.heap.size ∧ ∀ i rs, rss[i]? = some rs → ∃ u, w.cell? ⟨b, off + i, none⟩ = some u ∧ VecL w u rs)

theorem MatL.below {B : Nat} {w w' : World} {v : Value} {rss : List (List Raw)} (h : MatL w v rss) (hb : Below B w w') (hB : w.heap.size ≤ B) : MatL w' v rss := by
  obtain ⟨ao, cap, hv, h1, h2⟩ := h
  refine ⟨ao, cap, hv, h1, fun h0 => ?_⟩
  obtain ⟨b, off, e, hlt, hc⟩ := h2 h0
  refine ⟨b, off, e, Nat.lt_of_lt_of_le hlt hb.size, fun i zs hi => ?_⟩
  obtain ⟨u, h3, h4⟩ := hc i zs hi
  exact ⟨u, (hb.cell (p := ⟨b, off + i, none⟩) (Nat.lt_of_lt_of_le hlt hB)).trans h3, h4.below hb hB⟩

theorem MatL.at {W : World} {v : Value} {rss : List (List Raw)} (h : MatL W v rss) (i : Nat) (hi : i < rss.length) : ∃ b off cap, v = .slice (some ⟨b, off, none⟩) rss.length cap ∧ b < W.heap.size ∧ ∃ u, W.cell? ⟨b, off + i, none⟩ = some u ∧ VecL W u rss[i] := by
  obtain ⟨ao, cap, rfl, -, h2⟩ := h
  obtain ⟨b, off, rfl, hlt, hc⟩ := h2 (by omega)
  obtain ⟨u, h3, h4⟩ := hc i rss[i] (by simp [hi])
  exact ⟨b, off, cap, rfl, hlt, u, h3, h4⟩

/-- A number, as it would come in. -/
theorem NumL.raw {w : World} {neg : Bool} {s : Value} {z : Int} {n : Nat} (h : NumL w (.agg #[.bool neg, s]) z n) : ∃ zs, Lim w s zs ∧ isNum neg zs = true := by
  obtain ⟨neg', s', zs, e, hl, hn, h0, -, -⟩ := h
  simp only [Value.agg.injEq, Array.mk.injEq, List.cons.injEq, Value.bool.injEq, and_true] at e
  obtain ⟨rfl, rfl⟩ := e
  refine ⟨zs, hl, ?_⟩
  unfold isNum
  by_cases hz : zs.length = 0
  · rw [if_pos hz, h0 hz]; rfl
  · rw [if_neg hz, bne_iff_ne]
    rcases hn with h | h
    · exact absurd h hz
    · exact h

/-- A vector, as it would come in. -/
theorem VecN.raw {w : World} {v : Value} {zs : List Int} {n : Nat} (h : VecN w v zs n) : ∃ rs : List Raw, VecL w v rs ∧ rs.length = zs.length ∧ rs.all Raw.num = true := by
  obtain ⟨ao, cap, rfl, h1, h2⟩ := h
  by_cases h0 : 0 < zs.length
  · obtain ⟨b, off, rfl, hlt, hc⟩ := h2 h0
    have key : ∀ k, k ≤ zs.length → ∃ rs : List Raw, rs.length = k ∧ rs.all Raw.num = true ∧ ∀ i r, rs[i]? = some r → w.cell? ⟨b, off + i * 2, none⟩ = some (.bool r.neg) ∧ w.cell? ⟨b, off + i * 2 + 1, none⟩ = some r.s ∧ Lim w r.s r.zs := by
      intro k
      induction k with
      | zero => exact fun _ => ⟨[], rfl, rfl, fun i r e => by simp at e⟩
      | succ k ih =>
        intro hk
        obtain ⟨rs, e1, e2, e3⟩ := ih (by omega)
        obtain ⟨neg, o, l, c, c0, c1, hn⟩ := hc k (by omega)
        obtain ⟨zs', hl, hi⟩ := hn.raw
        refine ⟨rs ++ [⟨neg, .slice o l c, zs'⟩], by simp [e1], by simp [e2, Raw.num, hi], fun i r e => ?_⟩
        by_cases hi : i < rs.length
        · rw [List.getElem?_append_left hi] at e
          exact e3 i r e
        · rw [List.getElem?_append_right (by omega)] at e
          have hik : i - rs.length = 0 := by
            have := (List.getElem?_eq_some_iff.1 e).1
            simpa using this
          rw [hik] at e
          simp only [List.getElem?_cons_zero, Option.some.injEq] at e
          have : i = k := by omega
          rw [this, ← e]
          exact ⟨c0, c1, hl⟩
    obtain ⟨rs, e1, e2, e3⟩ := key zs.length (Nat.le_refl _)
    exact ⟨rs, ⟨_, cap, by rw [e1], by rw [e1]; exact h1, fun _ => ⟨b, off, rfl, hlt, e3⟩⟩, e1, e2⟩
  · exact ⟨[], ⟨ao, cap, by rw [show zs.length = 0 by omega]; rfl, Nat.zero_le _, fun h => absurd h (by simp)⟩, by simp; omega, rfl⟩

end Go.Proofs.YtdedolkgcdlmeaaGreatDoor
