/- Rows of vectors that grow at their end. Their own block holds slices alone: so no number lies in it, and what is appended changes no vector. -/
import Derived.Test.YtdedolkgcdlmeaaGreatDoorMats
namespace Go.Proofs.YtdedolkgcdlmeaaGreatDoor
open Go.RowKit Limbs

/-- That block holds slices alone. -/
def AllSl (W : World) (row : Option Nat) : Prop := ∀ g, row = some g → ∃ cur t fz, W.heap[g]? = some (.cells cur t fz) ∧ ∀ u, u ∈ cur.toList → ∃ o l c, u = .slice o l c

theorem allSl_none (W : World) : AllSl W none := fun _ h => by cases h

theorem AllSl.cell {W : World} {g : Nat} (h : AllSl W (some g)) {k : Nat} {u : Value} (hc : W.cell? ⟨g, k, none⟩ = some u) : ∃ o l c, u = .slice o l c := by
  obtain ⟨cur, t, fz, hh, hs⟩ := h g rfl
  rw [cell_of_row W g k cur t fz hh] at hc
  refine hs u ?_
  obtain ⟨hk, e⟩ := Array.getElem?_eq_some_iff.1 hc
  rw [← e]
  exact Array.getElem_mem_toList hk

theorem AllSl.later {W W' : World} {row : Option Nat} (h : AllSl W row) (hb : Below W.heap.size W W') : AllSl W' row := fun g hg => by
  obtain ⟨cur, t, fz, hh, hs⟩ := h g hg
  exact ⟨cur, t, fz, (hb.block _ (heap_lt hh)).trans hh, hs⟩

theorem Lim.grownS {W W' : World} {row : Option Nat} {s : Value} {zs : List Int} (h : Lim W s zs) (hg : W.grownBy W' row) (hr : AllSl W row) : Lim W' s zs := by
  obtain ⟨ao, cap, rfl, h1, h2, h3, h4⟩ := h
  refine ⟨ao, cap, rfl, h1, h2, h3, fun h0 => ?_⟩
  obtain ⟨b, off, e, hlt, hc⟩ := h4 h0
  have hne : some b ≠ row := fun e' => by
    subst e'
    obtain ⟨o, l, c, e⟩ := hr.cell (hc 0 h0)
    cases e
  exact ⟨b, off, e, Nat.lt_of_lt_of_le hlt hg.size, fun i hi => hg.cell (hc i hi) hne⟩

theorem NumL.grownS {W W' : World} {row : Option Nat} {v : Value} {z : Int} {n : Nat} (h : NumL W v z n) (hg : W.grownBy W' row) (hr : AllSl W row) : NumL W' v z n := by
  obtain ⟨neg, s, zs, h1, h2, h3⟩ := h
  exact ⟨neg, s, zs, h1, h2.grownS hg hr, h3⟩

theorem VecN.grownS {W W' : World} {row : Option Nat} {v : Value} {zs : List Int} {n : Nat} (h : VecN W v zs n) (hg : W.grownBy W' row) (hr : AllSl W row) : VecN W' v zs n := by
  obtain ⟨ao, cap, hv, h1, h2⟩ := h
  refine ⟨ao, cap, hv, h1, fun h0 => ?_⟩
  obtain ⟨b, off, e, hlt, hc⟩ := h2 h0
  have hne : some b ≠ row := fun e' => by
    subst e'
    obtain ⟨neg, _, _, _, h3, -⟩ := hc 0 h0
    obtain ⟨o, l, c, e⟩ := hr.cell h3
    cases e
  refine ⟨b, off, e, Nat.lt_of_lt_of_le hlt hg.size, fun i hi => ?_⟩
  obtain ⟨neg, o, l, c, h3, h4, h5⟩ := hc i hi
  exact ⟨neg, o, l, c, hg.cell h3 hne, hg.cell h4 hne, h5.grownS hg hr⟩

theorem zero_sl (n : Nat) : ∀ u, u ∈ (Builtin.zeroCells (Value.cells (.slice none 0 0)) n).toList → ∃ o l c, u = .slice o l c := fun u hu => by
  simp only [Builtin.zeroCells, Array.toList_map, List.mem_map] at hu
  obtain ⟨i, -, rfl⟩ := hu
  exact ⟨none, 0, 0, by
    have : i % (Value.cells (.slice none 0 0)).size = 0 := by simp [Value.cells, Nat.mod_one]
    rw [this]; rfl⟩

/-- A slice is appended to slices. -/
theorem run_append_sl {P : Program} (w : World) (t ty : TypeId) (base : Nat) (e : TypeId) (i : TypeInfo) (ht : P.underlying t = some (.slice e)) (hi : P.info? e = some i) (hz : i.zero = some (.slice none 0 0))
    (hsize : i.size = 1) (v : Value) (n : Nat) (xs : List Value) (hown : w.ownsRow base e 1 v n xs) (hall : AllSl w v.ownBlock)
    (ad : Addr) (o : Option Addr) (l c cc : Nat) (hnews : ∀ j u, [Value.slice o l c][j]? = some u → w.cell? (ad.add j) = some u)
    (h63 : n + 1 ≤ maxLen) (hbytes : (n + 1) * i.bytes ≤ 140737488355328) (g cap : Nat) (w' : World)
    (hr : (Builtin.append_ #[t, t] ty #[v, .slice (some ad) 1 cc]).run P w = .ok (.slice (some ⟨g, 0, none⟩) (n + 1) cap) w') : AllSl w' (some g) := by
  have hx : ∀ u, u ∈ xs → ∃ o l c, u = .slice o l c := by
    rcases hown.2 with ⟨rfl, rfl⟩ | ⟨g', cap', cur, rfl, hbg, hg, hnc, hcm, hcs, htake⟩
    · have : xs = [] := List.eq_nil_of_length_eq_zero (by simpa using hown.1)
      rw [this]
      exact fun _ h => by cases h
    · intro u hu
      obtain ⟨cur', t', fz', hh, hs⟩ := hall g' rfl
      rw [hg] at hh
      simp only [Option.some.injEq, Obj.cells.injEq] at hh
      obtain ⟨rfl, -, -⟩ := hh
      rw [← htake] at hu
      exact hs u (List.mem_of_mem_take hu)
  have hmake : ∀ (k : Nat) (ys : List Value), (∀ u, u ∈ ys → ∃ o l c, u = .slice o l c) → AllSl (w.drew.alloc (.cells (ys.toArray ++ Builtin.zeroCells (Value.cells (.slice none 0 0)) k) e)) (some w.heap.size) := fun k ys hy g0 hg0 => by
    simp only [Option.some.injEq] at hg0
    subst hg0
    refine ⟨_, _, _, heap_alloc_new w.drew _, fun u hu => ?_⟩
    rw [Array.toList_append, List.mem_append] at hu
    rcases hu with hu | hu
    · exact hy u (by simpa using hu)
    · exact zero_sl k u hu
  have hsl : ∀ u, u ∈ [Value.slice o l c] → ∃ o l c, u = .slice o l c := fun u hu => by
    rw [List.mem_singleton] at hu
    exact ⟨o, l, c, hu⟩
  have h1c : ∀ u ∈ [Value.slice o l c], u.oneCell' = true := fun u hu => by
    rw [List.mem_singleton] at hu
    rw [hu]; rfl
  have hsmall : n + 1 ≤ 9223372036854775807 := by simp only [maxLen] at h63; omega
  rcases hown.2 with ⟨rfl, rfl⟩ | ⟨g', cap', cur, rfl, hbg, hg, hnc, hcm, hcs, htake⟩
  · have hr' := run_append_nil (P := P) w t ty e i (.slice none 0 0) ht hi hz ad 1 cc [Value.slice o l c] (by rw [hsize]; rfl) hnews (by decide) (by decide) (by simp only [Nat.zero_add] at hbytes; omega)
    rw [hr'] at hr
    simp only [Result.ok.injEq, Value.slice.injEq, Option.some.injEq, Addr.mk.injEq, and_true] at hr
    obtain ⟨⟨rfl, -⟩, rfl⟩ := hr
    exact hmake _ _ hsl
  · by_cases hroom : n + 1 ≤ cap'
    · have hr' := run_append_room (P := P) w t ty e i ht hi g' n cap' cur hg ad 1 cc [Value.slice o l c] (by rw [hsize]; rfl) hnews h1c hroom (by rw [hsize, hcs]; simp; omega)
      rw [hr'] at hr
      simp only [Result.ok.injEq, Value.slice.injEq, Option.some.injEq, Addr.mk.injEq, and_true, true_and] at hr
      obtain ⟨⟨rfl, -⟩, rfl⟩ := hr
      intro g0 hg0
      simp only [Option.some.injEq] at hg0
      subst hg0
      refine ⟨_, _, _, setRow_heap w g' cur _ e _ hg, fun u hu => ?_⟩
      obtain ⟨cur', t', fz', hh, hs⟩ := hall g' rfl
      rw [hg] at hh
      simp only [Option.some.injEq, Obj.cells.injEq] at hh
      obtain ⟨rfl, -, -⟩ := hh
      simp only [List.mem_append] at hu
      rcases hu with (hu | hu) | hu
      · exact hs u (List.mem_of_mem_take hu)
      · exact hsl u hu
      · exact hs u (List.mem_of_mem_drop hu)
    · have holds : ∀ j u, xs[j]? = some u → w.cell? ((⟨g', 0, none⟩ : Addr).add j) = some u := hown.cells (g := g') rfl
      have hr' := run_append_grow (P := P) w t ty e i (.slice none 0 0) ht hi hz ⟨g', 0, none⟩ n cap' xs (by rw [hsize]; exact hown.1) holds ad 1 cc [Value.slice o l c] (by rw [hsize]; rfl) hnews (by omega) (by omega) (growslice_fits (by omega) hbytes)
      rw [hr'] at hr
      simp only [Result.ok.injEq, Value.slice.injEq, Option.some.injEq, Addr.mk.injEq, and_true, true_and] at hr
      obtain ⟨⟨rfl, -⟩, rfl⟩ := hr
      have := hmake (grownCap w (n + 1) cap' e - (n + 1)) (xs ++ [Value.slice o l c]) (fun u hu => by
        rcases List.mem_append.1 hu with h | h
        · exact hx u h
        · exact hsl u h)
      rwa [← List.append_toArray] at this

/-- The same, at the list of a plain region's operations. -/
theorem wpList_append_sl {P : Program} {w : World} {ops : Array Oper} {rest : List Oper} {op : Oper} {a : Act} {Q : Exit → Act → World → Prop} (hgd : op.guard = none) (s x : Operand) (t : TypeId)
    (ho : op.op = .call { callee := .builtin .append, args := #[s, x], argTypes := #[t, t] })
    (base : Nat) (e : TypeId) (i : TypeInfo) (bytes : Nat) (ht : P.underlying t = some (.slice e)) (hi : P.info? e = some i) (hz : i.zero = some (.slice none 0 0))
    (hsize : i.size = 1) (hby : i.bytes = bytes) (v : Value) (n : Nat) (xs : List Value) (hs : a.eval s = v) (hown : w.ownsRow base e 1 v n xs) (hall : AllSl w v.ownBlock)
    (ad : Addr) (cc : Nat) (o : Option Addr) (l c : Nat) (hx : a.eval x = .slice (some ad) 1 cc) (hnews : ∀ j u, [Value.slice o l c][j]? = some u → w.cell? (ad.add j) = some u)
    (h63 : n + 1 ≤ maxLen) (hbytes : (n + 1) * bytes ≤ 140737488355328) (hbase : base ≤ w.heap.size)
    (h : ∀ g cap w', w'.ownsRow base e 1 (.slice (some ⟨g, 0, none⟩) (n + 1) cap) (n + 1) (xs ++ [.slice o l c]) → w.grownBy w' v.ownBlock → AllSl w' (some g) → wpList P ops Q rest (a.put op.dst (.slice (some ⟨g, 0, none⟩) (n + 1) cap)) w') : wpList P ops Q (op :: rest) a w := by
  refine wpList_plain hgd fun K hK => ?_
  subst hby
  obtain ⟨g, cap, w', hr, h2, h3, h4, h5⟩ := run_append_lies (P := P) w t op.type base e i (.slice none 0 0) 1 i.bytes ht hi hz hsize rfl rfl (by decide) v n xs hown ad 1 cc [.slice o l c] rfl hnews (fun u hu => by rw [List.mem_singleton] at hu; rw [hu]; rfl) (by decide) h63 hbytes hbase _ rfl
  have hA := run_append_sl w t op.type base e i ht hi hz hsize v n xs hown hall ad o l c cc hnews h63 hbytes g cap w' hr
  unfold Oper.wp execOp
  simp only [ho, resolve, invoke, builtin, Sem.run_bind, Sem.run_pure, Result.andThen_ok, List.map_toArray, List.map_cons, List.map_nil, hs, hx, hr]
  exact hK _ _ (h g cap w' h2 h3 hA)

/-- Rows of vectors that grow. -/
structure GrowV (W : World) (base : Nat) (v : Value) (qs : List (Value × List Int)) (n : Nat) : Prop where
  own : W.ownsRow base 72 1 v qs.length (qs.map (·.1))
  all : AllSl W v.ownBlock
  vec : ∀ q ∈ qs, VecN W q.1 q.2 n

theorem GrowV.nil (W : World) (base n : Nat) : GrowV W base (.slice none 0 0) [] n := ⟨World.ownsRow_nil _ _ _ _, allSl_none _, fun _ h => by cases h⟩

theorem GrowV.later {W W' : World} {base : Nat} {v : Value} {qs : List (Value × List Int)} {n : Nat} (h : GrowV W base v qs n) (hb : Below W.heap.size W W') : GrowV W' base v qs n :=
  ⟨ownsRow_later h.own hb, h.all.later hb, fun p hp => (h.vec p hp).below hb (Nat.le_refl _)⟩

theorem GrowV.mono {W : World} {base : Nat} {v : Value} {qs : List (Value × List Int)} {n m : Nat} (h : GrowV W base v qs n) (hm : n ≤ m) : GrowV W base v qs m :=
  ⟨h.own, h.all, fun p hp => (h.vec p hp).mono hm⟩

theorem growV_snoc {base : Nat} {W w' : World} {v : Value} {qs : List (Value × List Int)} {n : Nat} {o : Option Addr} {l c : Nat} {zs : List Int} {g cap : Nat} (h : GrowV W base v qs n) (hz : VecN W (.slice o l c) zs n)
    (hown : w'.ownsRow base 72 1 (.slice (some ⟨g, 0, none⟩) (qs.length + 1) cap) (qs.length + 1) (qs.map (·.1) ++ [.slice o l c]))
    (hg : W.grownBy w' v.ownBlock) (hA : AllSl w' (some g)) : GrowV w' base (.slice (some ⟨g, 0, none⟩) (qs.length + 1) cap) (qs ++ [(.slice o l c, zs)]) n := by
  refine ⟨by rw [List.length_append, List.length_singleton, List.map_append]; exact hown, hA, fun p hp => ?_⟩
  rcases List.mem_append.1 hp with h' | h'
  · exact (h.vec p h').grownS hg h.all
  · rw [List.mem_singleton] at h'
    rw [h']
    exact hz.grownS hg h.all

theorem GrowV.mat {W : World} {base : Nat} {v : Value} {qs : List (Value × List Int)} {n : Nat} (h : GrowV W base v qs n) : MatN W v (qs.map (·.2)) n := matN_of_owns h.own h.vec

theorem grownV_below {base : Nat} {W w' : World} {v : Value} {qs : List (Value × List Int)} {n : Nat} (h : GrowV W base v qs n) (hB : base ≤ W.heap.size) (hg : W.grownBy w' v.ownBlock) : Below base W w' :=
  (Below.refl _ _).grown hg hB (fun k hk => (h.own.lt k hk).1)

end Go.Proofs.YtdedolkgcdlmeaaGreatDoor
