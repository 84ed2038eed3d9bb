/- Rows of vectors that grow at their end. Their own block holds slices alone: so no number lies in it, and what is appended changes no vector. -/
import Derived.Test.YtmeefloajhffbaaDoorOpens

namespace Go.Proofs.YtmeefloajhffbaaDoor
open Go.RowKit Limbs

/-- That block holds slices alone. -/
def AllSl (W : World) (row : Option Nat) : Prop := ∀ g, row = some g → ∃ cur t fz, W.heap[g]? = some (.cells cur t fz) ∧ ∀ u, u ∈ cur.toList → ∃ o l c, u = .slice o l c

theorem allSl_none (W : World) : AllSl W none := fun _ h => by cases h

theorem AllSl.cell {W : World} {g : Nat} (h : AllSl W (some g)) {k : Nat} {u : Value} (hc : W.cell? ⟨g, k, none⟩ = some u) : ∃ o l c, u = .slice o l c := by
  obtain ⟨cur, t, fz, hh, hs⟩ := h g rfl
  rw [cell_of_row W g k cur t fz hh] at hc
  refine hs u ?_
  obtain ⟨hk, e⟩ := Array.getElem?_eq_some_iff.1 hc
  rw [← e]
  exact Array.getElem_mem_toList hk

theorem AllSl.later {W W' : World} {row : Option Nat} (h : AllSl W row) (hb : Below W.heap.size W W') : AllSl W' row := fun g hg => by
  obtain ⟨cur, t, fz, hh, hs⟩ := h g hg
  exact ⟨cur, t, fz, (hb.block _ (heap_lt hh)).trans hh, hs⟩

theorem Lim.grownS {W W' : World} {row : Option Nat} {s : Value} {zs : List Int} (h : Lim W s zs) (hg : W.grownBy W' row) (hr : AllSl W row) : Lim W' s zs := by
  obtain ⟨ao, cap, rfl, h1, h2, h3, h4⟩ := h
  refine ⟨ao, cap, rfl, h1, h2, h3, fun h0 => ?_⟩
  obtain ⟨b, off, e, hlt, hc⟩ := h4 h0
  have hne : some b ≠ row := fun e' => by
    subst e'
    obtain ⟨o, l, c, e⟩ := hr.cell (hc 0 h0)
    cases e
  exact ⟨b, off, e, Nat.lt_of_lt_of_le hlt hg.size, fun i hi => hg.cell (hc i hi) hne⟩

theorem NumL.grownS {W W' : World} {row : Option Nat} {v : Value} {z : Int} {n : Nat} (h : NumL W v z n) (hg : W.grownBy W' row) (hr : AllSl W row) : NumL W' v z n := by
  obtain ⟨neg, s, zs, h1, h2, h3⟩ := h
  exact ⟨neg, s, zs, h1, h2.grownS hg hr, h3⟩

theorem VecN.grownS {W W' : World} {row : Option Nat} {v : Value} {zs : List Int} {n : Nat} (h : VecN W v zs n) (hg : W.grownBy W' row) (hr : AllSl W row) : VecN W' v zs n := by
  obtain ⟨ao, cap, hv, h1, h2⟩ := h
  refine ⟨ao, cap, hv, h1, fun h0 => ?_⟩
  obtain ⟨b, off, e, hlt, hc⟩ := h2 h0
  have hne : some b ≠ row := fun e' => by
    subst e'
    obtain ⟨neg, _, _, _, h3, -⟩ := hc 0 h0
    obtain ⟨o, l, c, e⟩ := hr.cell h3
    cases e
  refine ⟨b, off, e, Nat.lt_of_lt_of_le hlt hg.size, fun i hi => ?_⟩
  obtain ⟨neg, o, l, c, h3, h4, h5⟩ := hc i hi
  exact ⟨neg, o, l, c, hg.cell h3 hne, hg.cell h4 hne, h5.grownS hg hr⟩

theorem zero_sl (n : Nat) : ∀ u, u ∈ (Builtin.zeroCells (Value.cells (.slice none 0 0)) n).toList → ∃ o l c, u = .slice o l c := fun u hu => by
  simp only [Builtin.zeroCells, Array.toList_map, List.mem_map] at hu
  obtain ⟨i, -, rfl⟩ := hu
  exact ⟨none, 0, 0, by
    have : i % (Value.cells (.slice none 0 0)).size = 0 := by simp [Value.cells, Nat.mod_one]
    rw [this]; rfl⟩

/-- Rows of vectors that grow. -/
structure GrowV (W : World) (base : Nat) (v : Value) (qs : List (Value × List Int)) (n : Nat) : Prop where
  own : W.ownsRow base 32 1 v qs.length (qs.map (·.1))
  all : AllSl W v.ownBlock
  vec : ∀ q ∈ qs, VecN W q.1 q.2 n

theorem GrowV.nil (W : World) (base n : Nat) : GrowV W base (.slice none 0 0) [] n := ⟨World.ownsRow_nil _ _ _ _, allSl_none _, fun _ h => by cases h⟩

theorem GrowV.later {W W' : World} {base : Nat} {v : Value} {qs : List (Value × List Int)} {n : Nat} (h : GrowV W base v qs n) (hb : Below W.heap.size W W') : GrowV W' base v qs n :=
  ⟨ownsRow_later h.own hb, h.all.later hb, fun p hp => (h.vec p hp).below hb (Nat.le_refl _)⟩

theorem GrowV.mono {W : World} {base : Nat} {v : Value} {qs : List (Value × List Int)} {n m : Nat} (h : GrowV W base v qs n) (hm : n ≤ m) : GrowV W base v qs m :=
  ⟨h.own, h.all, fun p hp => (h.vec p hp).mono hm⟩

theorem GrowV.mat {W : World} {base : Nat} {v : Value} {qs : List (Value × List Int)} {n : Nat} (h : GrowV W base v qs n) : MatN W v (qs.map (·.2)) n := matN_of_owns h.own h.vec

end Go.Proofs.YtmeefloajhffbaaDoor

/- Many rows of vectors are appended at once. -/
namespace Go.Proofs.YtmeefloajhffbaaDoor
open Go.RowKit Limbs

/-- Slices are appended to slices. -/
theorem run_append_slm {P : Program} (w : World) (t ty : TypeId) (base : Nat) (e : TypeId) (i : TypeInfo) (ht : P.underlying t = some (.slice e)) (hi : P.info? e = some i) (hz : i.zero = some (.slice none 0 0))
    (hsize : i.size = 1) (v : Value) (n : Nat) (xs : List Value) (hown : w.ownsRow base e 1 v n xs) (hall : AllSl w v.ownBlock)
    (ad : Addr) (m cc : Nat) (news : List Value) (hl : news.length = m) (hm : 0 < m) (hsl : ∀ u, u ∈ news → ∃ o l c, u = .slice o l c) (hnews : ∀ j u, news[j]? = some u → w.cell? (ad.add j) = some u)
    (h63 : n + m ≤ maxLen) (hbytes : (n + m) * i.bytes ≤ 140737488355328) (g cap : Nat) (w' : World)
    (hr : (Builtin.append_ #[t, t] ty #[v, .slice (some ad) m cc]).run P w = .ok (.slice (some ⟨g, 0, none⟩) (n + m) cap) w') : AllSl w' (some g) := by
  have hx : ∀ u, u ∈ xs → ∃ o l c, u = .slice o l c := by
    rcases hown.2 with ⟨rfl, rfl⟩ | ⟨g', cap', cur, rfl, hbg, hg, hnc, hcm, hcs, htake⟩
    · have : xs = [] := List.eq_nil_of_length_eq_zero (by simpa using hown.1)
      rw [this]
      exact fun _ h => by cases h
    · intro u hu
      obtain ⟨cur', t', fz', hh, hs⟩ := hall g' rfl
      rw [hg] at hh
      simp only [Option.some.injEq, Obj.cells.injEq] at hh
      obtain ⟨rfl, -, -⟩ := hh
      rw [← htake] at hu
      exact hs u (List.mem_of_mem_take hu)
  have hmake : ∀ (k : Nat) (ys : List Value), (∀ u, u ∈ ys → ∃ o l c, u = .slice o l c) → AllSl (w.drew.alloc (.cells (ys.toArray ++ Builtin.zeroCells (Value.cells (.slice none 0 0)) k) e)) (some w.heap.size) := fun k ys hy g0 hg0 => by
    simp only [Option.some.injEq] at hg0
    subst hg0
    refine ⟨_, _, _, heap_alloc_new w.drew _, fun u hu => ?_⟩
    rw [Array.toList_append, List.mem_append] at hu
    rcases hu with hu | hu
    · exact hy u (by simpa using hu)
    · exact zero_sl k u hu
  have h1c : ∀ u ∈ news, u.oneCell' = true := fun u hu => by
    obtain ⟨o, l, c, rfl⟩ := hsl u hu
    rfl
  have hl1 : news.length = m * i.size := by rw [hsize, hl, Nat.mul_one]
  have hsmall : n + m ≤ 9223372036854775807 := by simp only [maxLen] at h63; omega
  rcases hown.2 with ⟨rfl, rfl⟩ | ⟨g', cap', cur, rfl, hbg, hg, hnc, hcm, hcs, htake⟩
  · have hr' := run_append_nil (P := P) w t ty e i (.slice none 0 0) ht hi hz ad m cc news hl1 hnews hm (by omega) (by simp only [Nat.zero_add] at hbytes; omega)
    rw [hr'] at hr
    simp only [Result.ok.injEq, Value.slice.injEq, Option.some.injEq, Addr.mk.injEq, and_true] at hr
    obtain ⟨⟨rfl, -⟩, rfl⟩ := hr
    exact hmake _ _ hsl
  · by_cases hroom : n + m ≤ cap'
    · have hr' := run_append_room (P := P) w t ty e i ht hi g' n cap' cur hg ad m cc news hl1 hnews h1c hroom (by rw [hsize, hcs, hl]; omega)
      rw [hr'] at hr
      simp only [Result.ok.injEq, Value.slice.injEq, Option.some.injEq, Addr.mk.injEq, and_true, true_and] at hr
      obtain ⟨⟨rfl, -⟩, rfl⟩ := hr
      intro g0 hg0
      simp only [Option.some.injEq] at hg0
      subst hg0
      refine ⟨_, _, _, setRow_heap w g' cur _ e _ hg, fun u hu => ?_⟩
      obtain ⟨cur', t', fz', hh, hs⟩ := hall g' rfl
      rw [hg] at hh
      simp only [Option.some.injEq, Obj.cells.injEq] at hh
      obtain ⟨rfl, -, -⟩ := hh
      simp only [List.mem_append] at hu
      rcases hu with (hu | hu) | hu
      · exact hs u (List.mem_of_mem_take hu)
      · exact hsl u hu
      · exact hs u (List.mem_of_mem_drop hu)
    · have holds : ∀ j u, xs[j]? = some u → w.cell? ((⟨g', 0, none⟩ : Addr).add j) = some u := hown.cells (g := g') rfl
      have hr' := run_append_grow (P := P) w t ty e i (.slice none 0 0) ht hi hz ⟨g', 0, none⟩ n cap' xs (by rw [hsize]; exact hown.1) holds ad m cc news hl1 hnews (by omega) (by omega) (growslice_fits (by omega) hbytes)
      rw [hr'] at hr
      simp only [Result.ok.injEq, Value.slice.injEq, Option.some.injEq, Addr.mk.injEq, and_true, true_and] at hr
      obtain ⟨⟨rfl, -⟩, rfl⟩ := hr
      have := hmake (grownCap w (n + m) cap' e - (n + m)) (xs ++ news) (fun u hu => by
        rcases List.mem_append.1 hu with h | h
        · exact hx u h
        · exact hsl u h)
      rwa [← List.append_toArray] at this

/-- The headers of rows. -/
theorem MatN.heads {W : World} {b off cap : Nat} {yss : List (List Int)} {n : Nat} (h : MatN W (.slice (some ⟨b, off, none⟩) yss.length cap) yss n) (h0 : 0 < yss.length) :
    ∃ qs : List (Value × List Int), qs.map (·.2) = yss ∧ (∀ u, u ∈ qs.map (·.1) → ∃ o l c, u = .slice o l c) ∧ (∀ j u, (qs.map (·.1))[j]? = some u → W.cell? ((⟨b, off, none⟩ : Addr).add j) = some u) ∧ ∀ q ∈ qs, VecN W q.1 q.2 n := by
  obtain ⟨ao, cap', e, -, h2⟩ := h
  simp only [Value.slice.injEq, true_and] at e
  obtain ⟨rfl, rfl⟩ := e
  obtain ⟨b', off', e, hlt, hc⟩ := h2 h0
  simp only [Option.some.injEq, Addr.mk.injEq, and_true] at e
  obtain ⟨rfl, rfl⟩ := e
  have key : ∀ k, k ≤ yss.length → ∃ qs : List (Value × List Int), qs.map (·.2) = yss.take k ∧ (∀ u, u ∈ qs.map (·.1) → ∃ o l c, u = .slice o l c) ∧ (∀ j u, (qs.map (·.1))[j]? = some u → W.cell? ⟨b, off + j, none⟩ = some u) ∧ ∀ q ∈ qs, VecN W q.1 q.2 n := by
    intro k
    induction k with
    | zero => exact fun _ => ⟨[], (by simp), (fun u h => by cases h), (fun j u h => by simp at h), (fun q h => by cases h)⟩
    | succ k ih =>
      intro hk
      obtain ⟨qs, e1, e2, e3, e4⟩ := ih (by omega)
      obtain ⟨u, cu, hu⟩ := hc k yss[k] (by simp)
      have hlen : (qs.map (·.1)).length = k := by
        have := congrArg List.length e1
        rw [List.length_map, List.length_take] at this
        rw [List.length_map]; omega
      refine ⟨qs ++ [(u, yss[k])], by rw [List.map_append, e1, List.take_succ_eq_append_getElem (by omega)]; rfl, fun x hx => ?_, fun j x hx => ?_, fun q hq => ?_⟩
      · rw [List.map_append, List.mem_append] at hx
        rcases hx with hx | hx
        · exact e2 x hx
        · have : x = u := by simpa using hx
          obtain ⟨o, c, eu, -⟩ := hu
          exact ⟨_, _, _, this.trans eu⟩
      · rw [List.map_append] at hx
        by_cases hj : j < k
        · rw [List.getElem?_append_left (by omega)] at hx
          exact e3 j x hx
        · rw [List.getElem?_append_right (by omega), hlen] at hx
          have h0 : j - k = 0 := by
            have := (List.getElem?_eq_some_iff.1 hx).1
            simpa using this
          rw [h0] at hx
          have : x = u := by simpa using hx.symm
          obtain rfl : j = k := by omega
          rw [this]; exact cu
      · rcases List.mem_append.1 hq with h | h
        · exact e4 q h
        · rw [List.mem_singleton] at h
          rw [h]; exact hu
  obtain ⟨qs, e1, e2, e3, e4⟩ := key yss.length (Nat.le_refl _)
  rw [List.take_length] at e1
  refine ⟨qs, e1, e2, fun j u h => ?_, e4⟩
  have ea : (⟨b, off, none⟩ : Addr).add j = ⟨b, off + j, none⟩ := by unfold Addr.add; split <;> simp_all
  rw [ea]
  exact e3 j u h

end Go.Proofs.YtmeefloajhffbaaDoor
