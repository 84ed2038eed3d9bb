/- Many rows of vectors are appended at once. -/
import Derived.Test.YtdedolkgcdlmeaaGreatDoorGrowV
namespace Go.Proofs.YtdedolkgcdlmeaaGreatDoor
open Go.RowKit Limbs

/-- Slices are appended to slices. -/
theorem run_append_slm {P : Program} (w : World) (t ty : TypeId) (base : Nat) (e : TypeId) (i : TypeInfo) (ht : P.underlying t = some (.slice e)) (hi : P.info? e = some i) (hz : i.zero = some (.slice none 0 0))
    (hsize : i.size = 1) (v : Value) (n : Nat) (xs : List Value) (hown : w.ownsRow base e 1 v n xs) (hall : AllSl w v.ownBlock)
    (ad : Addr) (m cc : Nat) (news : List Value) (hl : news.length = m) (hm : 0 < m) (hsl : ∀ u, u ∈ news → ∃ o l c, u = .slice o l c) (hnews : ∀ j u, news[j]? = some u → w.cell? (ad.add j) = some u)
    (h63 : n + m ≤ maxLen) (hbytes : (n + m) * i.bytes ≤ 140737488355328) (g cap : Nat) (w' : World)
    (hr : (Builtin.append_ #[t, t] ty #[v, .slice (some ad) m cc]).run P w = .ok (.slice (some ⟨g, 0, none⟩) (n + m) cap) w') : AllSl w' (some g) := by
  have hx : ∀ u, u ∈ xs → ∃ o l c, u = .slice o l c := by
    rcases hown.2 with ⟨rfl, rfl⟩ | ⟨g', cap', cur, rfl, hbg, hg, hnc, hcm, hcs, htake⟩
    · have : xs = [] := List.eq_nil_of_length_eq_zero (by simpa using hown.1)
      rw [this]
      exact fun _ h => by cases h
    · intro u hu
      obtain ⟨cur', t', fz', hh, hs⟩ := hall g' rfl
      rw [hg] at hh
      simp only [Option.some.injEq, Obj.cells.injEq] at hh
      obtain ⟨rfl, -, -⟩ := hh
      rw [← htake] at hu
      exact hs u (List.mem_of_mem_take hu)
  have hmake : ∀ (k : Nat) (ys : List Value), (∀ u, u ∈ ys → ∃ o l c, u = .slice o l c) → AllSl (w.drew.alloc (.cells (ys.toArray ++ Builtin.zeroCells (Value.cells (.slice none 0 0)) k) e)) (some w.heap.size) := fun k ys hy g0 hg0 => by
    simp only [Option.some.injEq] at hg0
    subst hg0
    refine ⟨_, _, _, heap_alloc_new w.drew _, fun u hu => ?_⟩
    rw [Array.toList_append, List.mem_append] at hu
    rcases hu with hu | hu
    · exact hy u (by simpa using hu)
    · exact zero_sl k u hu
  have h1c : ∀ u ∈ news, u.oneCell' = true := fun u hu => by
    obtain ⟨o, l, c, rfl⟩ := hsl u hu
    rfl
  have hl1 : news.length = m * i.size := by rw [hsize, hl, Nat.mul_one]
  have hsmall : n + m ≤ 9223372036854775807 := by simp only [maxLen] at h63; omega
  rcases hown.2 with ⟨rfl, rfl⟩ | ⟨g', cap', cur, rfl, hbg, hg, hnc, hcm, hcs, htake⟩
  · have hr' := run_append_nil (P := P) w t ty e i (.slice none 0 0) ht hi hz ad m cc news hl1 hnews hm (by omega) (by simp only [Nat.zero_add] at hbytes; omega)
    rw [hr'] at hr
    simp only [Result.ok.injEq, Value.slice.injEq, Option.some.injEq, Addr.mk.injEq, and_true] at hr
    obtain ⟨⟨rfl, -⟩, rfl⟩ := hr
    exact hmake _ _ hsl
  · by_cases hroom : n + m ≤ cap'
    · have hr' := run_append_room (P := P) w t ty e i ht hi g' n cap' cur hg ad m cc news hl1 hnews h1c hroom (by rw [hsize, hcs, hl]; omega)
      rw [hr'] at hr
      simp only [Result.ok.injEq, Value.slice.injEq, Option.some.injEq, Addr.mk.injEq, and_true, true_and] at hr
      obtain ⟨⟨rfl, -⟩, rfl⟩ := hr
      intro g0 hg0
      simp only [Option.some.injEq] at hg0
      subst hg0
      refine ⟨_, _, _, setRow_heap w g' cur _ e _ hg, fun u hu => ?_⟩
      obtain ⟨cur', t', fz', hh, hs⟩ := hall g' rfl
      rw [hg] at hh
      simp only [Option.some.injEq, Obj.cells.injEq] at hh
      obtain ⟨rfl, -, -⟩ := hh
      simp only [List.mem_append] at hu
      rcases hu with (hu | hu) | hu
      · exact hs u (List.mem_of_mem_take hu)
      · exact hsl u hu
      · exact hs u (List.mem_of_mem_drop hu)
    · have holds : ∀ j u, xs[j]? = some u → w.cell? ((⟨g', 0, none⟩ : Addr).add j) = some u := hown.cells (g := g') rfl
      have hr' := run_append_grow (P := P) w t ty e i (.slice none 0 0) ht hi hz ⟨g', 0, none⟩ n cap' xs (by rw [hsize]; exact hown.1) holds ad m cc news hl1 hnews (by omega) (by omega) (growslice_fits (by omega) hbytes)
      rw [hr'] at hr
      simp only [Result.ok.injEq, Value.slice.injEq, Option.some.injEq, Addr.mk.injEq, and_true, true_and] at hr
      obtain ⟨⟨rfl, -⟩, rfl⟩ := hr
      have := hmake (grownCap w (n + m) cap' e - (n + m)) (xs ++ news) (fun u hu => by
        rcases List.mem_append.1 hu with h | h
        · exact hx u h
        · exact hsl u h)
      rwa [← List.append_toArray] at this

/-- The headers of rows. -/
theorem MatN.heads {W : World} {b off cap : Nat} {yss : List (List Int)} {n : Nat} (h : MatN W (.slice (some ⟨b, off, none⟩) yss.length cap) yss n) (h0 : 0 < yss.length) :
    ∃ qs : List (Value × List Int), qs.map (·.2) = yss ∧ (∀ u, u ∈ qs.map (·.1) → ∃ o l c, u = .slice o l c) ∧ (∀ j u, (qs.map (·.1))[j]? = some u → W.cell? ((⟨b, off, none⟩ : Addr).add j) = some u) ∧ ∀ q ∈ qs, VecN W q.1 q.2 n := by
  obtain ⟨ao, cap', e, -, h2⟩ := h
  simp only [Value.slice.injEq, true_and] at e
  obtain ⟨rfl, rfl⟩ := e
  obtain ⟨b', off', e, hlt, hc⟩ := h2 h0
  simp only [Option.some.injEq, Addr.mk.injEq, and_true] at e
  obtain ⟨rfl, rfl⟩ := e
  have key : ∀ k, k ≤ yss.length → ∃ qs : List (Value × List Int), qs.map (·.2) = yss.take k ∧ (∀ u, u ∈ qs.map (·.1) → ∃ o l c, u = .slice o l c) ∧ (∀ j u, (qs.map (·.1))[j]? = some u → W.cell? ⟨b, off + j, none⟩ = some u) ∧ ∀ q ∈ qs, VecN W q.1 q.2 n := by
    intro k
    induction k with
    | zero => exact fun _ => ⟨[], (by simp), (fun u h => by cases h), (fun j u h => by simp at h), (fun q h => by cases h)⟩
    | succ k ih =>
      intro hk
      obtain ⟨qs, e1, e2, e3, e4⟩ := ih (by omega)
      obtain ⟨u, cu, hu⟩ := hc k yss[k] (by simp)
      have hlen : (qs.map (·.1)).length = k := by
        have := congrArg List.length e1
        rw [List.length_map, List.length_take] at this
        rw [List.length_map]; omega
      refine ⟨qs ++ [(u, yss[k])], by rw [List.map_append, e1, List.take_succ_eq_append_getElem (by omega)]; rfl, fun x hx => ?_, fun j x hx => ?_, fun q hq => ?_⟩
      · rw [List.map_append, List.mem_append] at hx
        rcases hx with hx | hx
        · exact e2 x hx
        · have : x = u := by simpa using hx
          obtain ⟨o, c, eu, -⟩ := hu
          exact ⟨_, _, _, this.trans eu⟩
      · rw [List.map_append] at hx
        by_cases hj : j < k
        · rw [List.getElem?_append_left (by omega)] at hx
          exact e3 j x hx
        · rw [List.getElem?_append_right (by omega), hlen] at hx
          have h0 : j - k = 0 := by
            have := (List.getElem?_eq_some_iff.1 hx).1
            simpa using this
          rw [h0] at hx
          have : x = u := by simpa using hx.symm
          obtain rfl : j = k := by omega
          rw [this]; exact cu
      · rcases List.mem_append.1 hq with h | h
        · exact e4 q h
        · rw [List.mem_singleton] at h
          rw [h]; exact hu
  obtain ⟨qs, e1, e2, e3, e4⟩ := key yss.length (Nat.le_refl _)
  rw [List.take_length] at e1
  refine ⟨qs, e1, e2, fun j u h => ?_, e4⟩
  have ea : (⟨b, off, none⟩ : Addr).add j = ⟨b, off + j, none⟩ := by unfold Addr.add; split <;> simp_all
  rw [ea]
  exact e3 j u h

/-- Rows are appended to rows that grow. -/
theorem wpList_append_rows {P : Program} {w : World} {ops : Array Oper} {rest : List Oper} {op : Oper} {a : Act} {Q : Exit → Act → World → Prop} (hgd : op.guard = none) (s x : Operand) (t : TypeId)
    (ho : op.op = .call { callee := .builtin .append, args := #[s, x], argTypes := #[t, t] })
    (base : Nat) (i : TypeInfo) (ht : P.underlying t = some (.slice 72)) (hi : P.info? 72 = some i) (hz : i.zero = some (.slice none 0 0))
    (hsize : i.size = 1) (hby : i.bytes = 24) (v : Value) (qs : List (Value × List Int)) (nv : Nat) (hg : GrowV w base v qs nv) (hs : a.eval s = v)
    (y : Value) (yss : List (List Int)) (hx : a.eval x = y) (hy : MatN w y yss nv) (h1000 : qs.length + yss.length ≤ 1000000) (hbase : base ≤ w.heap.size)
    (h : ∀ v' w' qs', GrowV w' base v' (qs ++ qs') nv → qs'.map (·.2) = yss → Below base w w' → wpList P ops Q rest (a.put op.dst v') w') : wpList P ops Q (op :: rest) a w := by
  refine wpList_plain hgd fun K hK => ?_
  by_cases h0 : yss.length = 0
  · obtain ⟨yo, yc, rfl, -, -⟩ := hy
    rw [h0] at hx
    have hnil : yss = [] := List.eq_nil_of_length_eq_zero h0
    have hr : (Builtin.append_ #[t, t] op.type #[v, .slice yo 0 yc]).run P w = .ok v w := by
      rcases hg.own.2 with ⟨rfl, -⟩ | ⟨g, cap, cur, rfl, hb, hh, hc1, -⟩
      · cases yo <;> simp [Builtin.append_, run_underlying ht, sizeOf, typeInfo, hi, Builtin.lenOf, Builtin.firstCells, loadCells, loadCellsFrom]
      · cases yo <;> simp [Builtin.append_, run_underlying ht, sizeOf, typeInfo, hi, Builtin.lenOf, Builtin.firstCells, loadCells, loadCellsFrom, hc1, storeCells]
    unfold Oper.wp execOp
    simp only [ho, resolve, invoke, builtin, Sem.run_bind, Sem.run_pure, Result.andThen_ok, List.map_toArray, List.map_cons, List.map_nil, hs, hx, hr]
    exact hK _ _ (h v w [] (by rw [List.append_nil]; exact hg) hnil.symm (Below.refl _ _))
  · have hy' := hy
    obtain ⟨yo, yc, rfl, -, h2⟩ := hy
    obtain ⟨b, off, rfl, -, -⟩ := h2 (by omega)
    obtain ⟨qs', e1, e2, e3, e4⟩ := hy'.heads (by omega)
    have hlen : (qs'.map (·.1)).length = yss.length := by rw [List.length_map, ← e1, List.length_map]
    obtain ⟨g, cap, w', hr, k2, k3, k4, k5⟩ := run_append_lies (P := P) w t op.type base 72 i (.slice none 0 0) 1 24 ht hi hz hsize hby rfl (by decide) v qs.length (qs.map (·.1)) hg.own ⟨b, off, none⟩ yss.length yc (qs'.map (·.1)) (by rw [hlen, Nat.mul_one]) e3 (fun u hu => by obtain ⟨o, l, c, rfl⟩ := e2 u hu; rfl) (by omega) (by unfold maxLen; omega) (by omega) hbase _ rfl
    have hA := run_append_slm w t op.type base 72 i ht hi hz hsize v qs.length (qs.map (·.1)) hg.own hg.all ⟨b, off, none⟩ yss.length yc (qs'.map (·.1)) hlen (by omega) e2 e3 (by unfold maxLen; omega) (by rw [hby]; omega) g cap w' hr
    have hg' : GrowV w' base (.slice (some ⟨g, 0, none⟩) (qs.length + yss.length) cap) (qs ++ qs') nv := by
      refine ⟨?_, hA, fun p hp => ?_⟩
      · rw [List.length_append, List.map_append]
        have : qs'.length = yss.length := by rw [← hlen, List.length_map]
        rw [this]
        exact k2
      · rcases List.mem_append.1 hp with h' | h'
        · exact (hg.vec p h').grownS k3 hg.all
        · exact (e4 p h').grownS k3 hg.all
    unfold Oper.wp execOp
    simp only [ho, resolve, invoke, builtin, Sem.run_bind, Sem.run_pure, Result.andThen_ok, List.map_toArray, List.map_cons, List.map_nil, hs, hx, hr]
    exact hK _ _ (h _ w' qs' hg' e1 ((Below.refl _ _).grown k3 hbase (fun k hk => (hg.own.lt k hk).1)))

end Go.Proofs.YtdedolkgcdlmeaaGreatDoor
