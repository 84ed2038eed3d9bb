/- Rows of vectors that grow at their end. Their own block holds slices alone: so no number lies in it, and what is appended changes no vector. -/
import Derived.Test.YtjblidoilphifabGreatDoorDigs
import Derived.Test.YtjblidoilphifabGreatDoorMatO
import Derived.Test.YtjblidoilphifabGreatDoorRefJ
import Derived.Test.YtjblidoilphifabGreatDoorTextZ
import Derived.Laws.IdiomStrings

namespace Go.Proofs.YtjblidoilphifabGreatDoor
open Go.RowKit Limbs

/-- That block holds slices alone. -/
def AllSl (W : World) (row : Option Nat) : Prop := ∀ g, row = some g → ∃ cur t fz, W.heap[g]? = some (.cells cur t fz) ∧ ∀ u, u ∈ cur.toList → ∃ o l c, u = .slice o l c

theorem allSl_none (W : World) : AllSl W none := fun _ h => by cases h

theorem AllSl.cell {W : World} {g : Nat} (h : AllSl W (some g)) {k : Nat} {u : Value} (hc : W.cell? ⟨g, k, none⟩ = some u) : ∃ o l c, u = .slice o l c := by
  obtain ⟨cur, t, fz, hh, hs⟩ := h g rfl
  rw [cell_of_row W g k cur t fz hh] at hc
  refine hs u ?_
  obtain ⟨hk, e⟩ := Array.getElem?_eq_some_iff.1 hc
  rw [← e]
  exact Array.getElem_mem_toList hk

theorem AllSl.later {W W' : World} {row : Option Nat} (h : AllSl W row) (hb : Below W.heap.size W W') : AllSl W' row := fun g hg => by
  obtain ⟨cur, t, fz, hh, hs⟩ := h g hg
  exact ⟨cur, t, fz, (hb.block _ (heap_lt hh)).trans hh, hs⟩

theorem Lim.grownS {W W' : World} {row : Option Nat} {s : Value} {zs : List Int} (h : Lim W s zs) (hg : W.grownBy W' row) (hr : AllSl W row) : Lim W' s zs := by
  obtain ⟨ao, cap, rfl, h1, h2, h3, h4⟩ := h
  refine ⟨ao, cap, rfl, h1, h2, h3, fun h0 => ?_⟩
  obtain ⟨b, off, e, hlt, hc⟩ := h4 h0
  have hne : some b ≠ row := fun e' => by
    subst e'
    obtain ⟨o, l, c, e⟩ := hr.cell (hc 0 h0)
    cases e
  exact ⟨b, off, e, Nat.lt_of_lt_of_le hlt hg.size, fun i hi => hg.cell (hc i hi) hne⟩

theorem NumL.grownS {W W' : World} {row : Option Nat} {v : Value} {z : Int} {n : Nat} (h : NumL W v z n) (hg : W.grownBy W' row) (hr : AllSl W row) : NumL W' v z n := by
  obtain ⟨neg, s, zs, h1, h2, h3⟩ := h
  exact ⟨neg, s, zs, h1, h2.grownS hg hr, h3⟩

theorem VecN.grownS {W W' : World} {row : Option Nat} {v : Value} {zs : List Int} {n : Nat} (h : VecN W v zs n) (hg : W.grownBy W' row) (hr : AllSl W row) : VecN W' v zs n := by
  obtain ⟨ao, cap, hv, h1, h2⟩ := h
  refine ⟨ao, cap, hv, h1, fun h0 => ?_⟩
  obtain ⟨b, off, e, hlt, hc⟩ := h2 h0
  have hne : some b ≠ row := fun e' => by
    subst e'
    obtain ⟨neg, _, _, _, h3, -⟩ := hc 0 h0
    obtain ⟨o, l, c, e⟩ := hr.cell h3
    cases e
  refine ⟨b, off, e, Nat.lt_of_lt_of_le hlt hg.size, fun i hi => ?_⟩
  obtain ⟨neg, o, l, c, h3, h4, h5⟩ := hc i hi
  exact ⟨neg, o, l, c, hg.cell h3 hne, hg.cell h4 hne, h5.grownS hg hr⟩

theorem zero_sl (n : Nat) : ∀ u, u ∈ (Builtin.zeroCells (Value.cells (.slice none 0 0)) n).toList → ∃ o l c, u = .slice o l c := fun u hu => by
  simp only [Builtin.zeroCells, Array.toList_map, List.mem_map] at hu
  obtain ⟨i, -, rfl⟩ := hu
  exact ⟨none, 0, 0, by
    have : i % (Value.cells (.slice none 0 0)).size = 0 := by simp [Value.cells, Nat.mod_one]
    rw [this]; rfl⟩

/-- A slice is appended to slices. -/
theorem run_append_sl {P : Program} (w : World) (t ty : TypeId) (base : Nat) (e : TypeId) (i : TypeInfo) (ht : P.underlying t = some (.slice e)) (hi : P.info? e = some i) (hz : i.zero = some (.slice none 0 0))
    (hsize : i.size = 1) (v : Value) (n : Nat) (xs : List Value) (hown : w.ownsRow base e 1 v n xs) (hall : AllSl w v.ownBlock)
    (ad : Addr) (o : Option Addr) (l c cc : Nat) (hnews : ∀ j u, [Value.slice o l c][j]? = some u → w.cell? (ad.add j) = some u)
    (h63 : n + 1 ≤ maxLen) (hbytes : (n + 1) * i.bytes ≤ 140737488355328) (g cap : Nat) (w' : World)
    (hr : (Builtin.append_ #[t, t] ty #[v, .slice (some ad) 1 cc]).run P w = .ok (.slice (some ⟨g, 0, none⟩) (n + 1) cap) w') : AllSl w' (some g) := by
  have hx : ∀ u, u ∈ xs → ∃ o l c, u = .slice o l c := by
    rcases hown.2 with ⟨rfl, rfl⟩ | ⟨g', cap', cur, rfl, hbg, hg, hnc, hcm, hcs, htake⟩
    · have : xs = [] := List.eq_nil_of_length_eq_zero (by simpa using hown.1)
      rw [this]
      exact fun _ h => by cases h
    · intro u hu
      obtain ⟨cur', t', fz', hh, hs⟩ := hall g' rfl
      rw [hg] at hh
      simp only [Option.some.injEq, Obj.cells.injEq] at hh
      obtain ⟨rfl, -, -⟩ := hh
      rw [← htake] at hu
      exact hs u (List.mem_of_mem_take hu)
  have hmake : ∀ (k : Nat) (ys : List Value), (∀ u, u ∈ ys → ∃ o l c, u = .slice o l c) → AllSl (w.drew.alloc (.cells (ys.toArray ++ Builtin.zeroCells (Value.cells (.slice none 0 0)) k) e)) (some w.heap.size) := fun k ys hy g0 hg0 => by
    simp only [Option.some.injEq] at hg0
    subst hg0
    refine ⟨_, _, _, heap_alloc_new w.drew _, fun u hu => ?_⟩
    rw [Array.toList_append, List.mem_append] at hu
    rcases hu with hu | hu
    · exact hy u (by simpa using hu)
    · exact zero_sl k u hu
  have hsl : ∀ u, u ∈ [Value.slice o l c] → ∃ o l c, u = .slice o l c := fun u hu => by
    rw [List.mem_singleton] at hu
    exact ⟨o, l, c, hu⟩
  have h1c : ∀ u ∈ [Value.slice o l c], u.oneCell' = true := fun u hu => by
    rw [List.mem_singleton] at hu
    rw [hu]; rfl
  have hsmall : n + 1 ≤ 9223372036854775807 := by simp only [maxLen] at h63; omega
  rcases hown.2 with ⟨rfl, rfl⟩ | ⟨g', cap', cur, rfl, hbg, hg, hnc, hcm, hcs, htake⟩
  · have hr' := run_append_nil (P := P) w t ty e i (.slice none 0 0) ht hi hz ad 1 cc [Value.slice o l c] (by rw [hsize]; rfl) hnews (by decide) (by decide) (by simp only [Nat.zero_add] at hbytes; omega)
    rw [hr'] at hr
    simp only [Result.ok.injEq, Value.slice.injEq, Option.some.injEq, Addr.mk.injEq, and_true] at hr
    obtain ⟨⟨rfl, -⟩, rfl⟩ := hr
    exact hmake _ _ hsl
  · by_cases hroom : n + 1 ≤ cap'
    · have hr' := run_append_room (P := P) w t ty e i ht hi g' n cap' cur hg ad 1 cc [Value.slice o l c] (by rw [hsize]; rfl) hnews h1c hroom (by rw [hsize, hcs]; simp; omega)
      rw [hr'] at hr
      simp only [Result.ok.injEq, Value.slice.injEq, Option.some.injEq, Addr.mk.injEq, and_true, true_and] at hr
      obtain ⟨⟨rfl, -⟩, rfl⟩ := hr
      intro g0 hg0
      simp only [Option.some.injEq] at hg0
      subst hg0
      refine ⟨_, _, _, setRow_heap w g' cur _ e _ hg, fun u hu => ?_⟩
      obtain ⟨cur', t', fz', hh, hs⟩ := hall g' rfl
      rw [hg] at hh
      simp only [Option.some.injEq, Obj.cells.injEq] at hh
      obtain ⟨rfl, -, -⟩ := hh
      simp only [List.mem_append] at hu
      rcases hu with (hu | hu) | hu
      · exact hs u (List.mem_of_mem_take hu)
      · exact hsl u hu
      · exact hs u (List.mem_of_mem_drop hu)
    · have holds : ∀ j u, xs[j]? = some u → w.cell? ((⟨g', 0, none⟩ : Addr).add j) = some u := hown.cells (g := g') rfl
      have hr' := run_append_grow (P := P) w t ty e i (.slice none 0 0) ht hi hz ⟨g', 0, none⟩ n cap' xs (by rw [hsize]; exact hown.1) holds ad 1 cc [Value.slice o l c] (by rw [hsize]; rfl) hnews (by omega) (by omega) (growslice_fits (by omega) hbytes)
      rw [hr'] at hr
      simp only [Result.ok.injEq, Value.slice.injEq, Option.some.injEq, Addr.mk.injEq, and_true, true_and] at hr
      obtain ⟨⟨rfl, -⟩, rfl⟩ := hr
      have := hmake (grownCap w (n + 1) cap' e - (n + 1)) (xs ++ [Value.slice o l c]) (fun u hu => by
        rcases List.mem_append.1 hu with h | h
        · exact hx u h
        · exact hsl u h)
      rwa [← List.append_toArray] at this

/-- The same, at the list of a plain region's operations. -/
theorem wpList_append_sl {P : Program} {w : World} {ops : Array Oper} {rest : List Oper} {op : Oper} {a : Act} {Q : Exit → Act → World → Prop} (hgd : op.guard = none) (s x : Operand) (t : TypeId)
    (ho : op.op = .call { callee := .builtin .append, args := #[s, x], argTypes := #[t, t] })
    (base : Nat) (e : TypeId) (i : TypeInfo) (bytes : Nat) (ht : P.underlying t = some (.slice e)) (hi : P.info? e = some i) (hz : i.zero = some (.slice none 0 0))
    (hsize : i.size = 1) (hby : i.bytes = bytes) (v : Value) (n : Nat) (xs : List Value) (hs : a.eval s = v) (hown : w.ownsRow base e 1 v n xs) (hall : AllSl w v.ownBlock)
    (ad : Addr) (cc : Nat) (o : Option Addr) (l c : Nat) (hx : a.eval x = .slice (some ad) 1 cc) (hnews : ∀ j u, [Value.slice o l c][j]? = some u → w.cell? (ad.add j) = some u)
    (h63 : n + 1 ≤ maxLen) (hbytes : (n + 1) * bytes ≤ 140737488355328) (hbase : base ≤ w.heap.size)
    (h : ∀ g cap w', w'.ownsRow base e 1 (.slice (some ⟨g, 0, none⟩) (n + 1) cap) (n + 1) (xs ++ [.slice o l c]) → w.grownBy w' v.ownBlock → AllSl w' (some g) → wpList P ops Q rest (a.put op.dst (.slice (some ⟨g, 0, none⟩) (n + 1) cap)) w') : wpList P ops Q (op :: rest) a w := by
  refine wpList_plain hgd fun K hK => ?_
  subst hby
  obtain ⟨g, cap, w', hr, h2, h3, h4, h5⟩ := run_append_lies (P := P) w t op.type base e i (.slice none 0 0) 1 i.bytes ht hi hz hsize rfl rfl (by decide) v n xs hown ad 1 cc [.slice o l c] rfl hnews (fun u hu => by rw [List.mem_singleton] at hu; rw [hu]; rfl) (by decide) h63 hbytes hbase _ rfl
  have hA := run_append_sl w t op.type base e i ht hi hz hsize v n xs hown hall ad o l c cc hnews h63 hbytes g cap w' hr
  unfold Oper.wp execOp
  simp only [ho, resolve, invoke, builtin, Sem.run_bind, Sem.run_pure, Result.andThen_ok, List.map_toArray, List.map_cons, List.map_nil, hs, hx, hr]
  exact hK _ _ (h g cap w' h2 h3 hA)

/-- Rows of vectors that grow. -/
structure GrowV (W : World) (base : Nat) (v : Value) (qs : List (Value × List Int)) (n : Nat) : Prop where
  own : W.ownsRow base 23 1 v qs.length (qs.map (·.1))
  all : AllSl W v.ownBlock
  vec : ∀ q ∈ qs, VecN W q.1 q.2 n

theorem GrowV.nil (W : World) (base n : Nat) : GrowV W base (.slice none 0 0) [] n := ⟨World.ownsRow_nil _ _ _ _, allSl_none _, fun _ h => by cases h⟩

theorem GrowV.later {W W' : World} {base : Nat} {v : Value} {qs : List (Value × List Int)} {n : Nat} (h : GrowV W base v qs n) (hb : Below W.heap.size W W') : GrowV W' base v qs n :=
  ⟨ownsRow_later h.own hb, h.all.later hb, fun p hp => (h.vec p hp).below hb (Nat.le_refl _)⟩

theorem GrowV.mono {W : World} {base : Nat} {v : Value} {qs : List (Value × List Int)} {n m : Nat} (h : GrowV W base v qs n) (hm : n ≤ m) : GrowV W base v qs m :=
  ⟨h.own, h.all, fun p hp => (h.vec p hp).mono hm⟩

theorem growV_snoc {base : Nat} {W w' : World} {v : Value} {qs : List (Value × List Int)} {n : Nat} {o : Option Addr} {l c : Nat} {zs : List Int} {g cap : Nat} (h : GrowV W base v qs n) (hz : VecN W (.slice o l c) zs n)
    (hown : w'.ownsRow base 23 1 (.slice (some ⟨g, 0, none⟩) (qs.length + 1) cap) (qs.length + 1) (qs.map (·.1) ++ [.slice o l c]))
    (hg : W.grownBy w' v.ownBlock) (hA : AllSl w' (some g)) : GrowV w' base (.slice (some ⟨g, 0, none⟩) (qs.length + 1) cap) (qs ++ [(.slice o l c, zs)]) n := by
  refine ⟨by rw [List.length_append, List.length_singleton, List.map_append]; exact hown, hA, fun p hp => ?_⟩
  rcases List.mem_append.1 hp with h' | h'
  · exact (h.vec p h').grownS hg h.all
  · rw [List.mem_singleton] at h'
    rw [h']
    exact hz.grownS hg h.all

theorem GrowV.mat {W : World} {base : Nat} {v : Value} {qs : List (Value × List Int)} {n : Nat} (h : GrowV W base v qs n) : MatN W v (qs.map (·.2)) n := matN_of_owns h.own h.vec

theorem grownV_below {base : Nat} {W w' : World} {v : Value} {qs : List (Value × List Int)} {n : Nat} (h : GrowV W base v qs n) (hB : base ≤ W.heap.size) (hg : W.grownBy w' v.ownBlock) : Below base W w' :=
  (Below.refl _ _).grown hg hB (fun k hk => (h.own.lt k hk).1)

end Go.Proofs.YtjblidoilphifabGreatDoor

/- The reference: rows of its own become rows of vectors. -/
namespace Go.Proofs.YtjblidoilphifabGreatDoor
open Go.RowKit Limbs Digs

set_option maxRecDepth 100000 in
set_option maxHeartbeats 1600000 in
theorem matOf_any (w : World) (v : Value) (zss : List (List Int)) (n : Nat) (hv : MatR w v zss n) (hl : zss.length ≤ 1000) (hr : ∀ zs ∈ zss, zs.length ≤ 1000) (hn6 : n ≤ 1000000) :
    Calls Tryz.prog 34 #[v] w fun e w' => ∃ u, e = .returned u ∧ MatN w' u zss n ∧ Below w.heap.size w w' := by
  obtain ⟨i0, hi, hz0, hz1, hz2⟩ := info_parts Tryz.infoNum
  obtain ⟨j0, hj, hy0, hy1, hy2⟩ := info_parts Tryz.infoVec
  have HV := hide hv; have HR := hide hr
  clear hr
  obtain ⟨ao, cap, rfl, -, -⟩ := hv
  go_enter Tryz.func34, Tryz.ntmps34
  go_wp2
  go_loopw [3, 4] (fun out i wr => ∃ (k : Nat) (qs : List (Value × List Int)), k ≤ zss.length ∧ i = .int .i64 k ∧ Hid (GrowV wr w.heap.size out qs n) ∧ Hid (qs.map (·.2) = zss.take k) ∧ Hid (Below w.heap.size w wr)) (fun _ i _ => zss.length - (intOf i).toNat)
  case atStart => exact ⟨0, [], Nat.zero_le _, rfl, hide (GrowV.nil _ _ _), hide (by simp), hide (Below.refl _ _)⟩
  case round =>
    obtain ⟨k, qs, hk, rfl, HGV, HQ, HBE⟩ := hrel
    have HQL : Hid (qs.length = k) := by
      have := congrArg List.length HQ.out
      rw [List.length_map, List.length_take] at this
      show qs.length = k
      omega
    by_cases hkl : k < zss.length
    · obtain ⟨_, _, e, -, hc⟩ := HV.out.below HBE.out (Nat.le_refl _)
      simp only [Value.slice.injEq, true_and] at e
      obtain ⟨rfl, rfl⟩ := e
      obtain ⟨b, rfl, hblt, hc⟩ := hc (by omega)
      obtain ⟨u, cu, hu⟩ := hc k zss[k] (by simp [hkl])
      have HU := hide hu
      have hzl := HR.out _ (List.getElem_mem hkl)
      have HQ' : Hid (∀ r : Value, (qs ++ [(r, zss[k])]).map (·.2) = zss.take (k + 1)) := fun r => by
        rw [List.map_append, HQ.out, List.take_succ_eq_append_getElem hkl]; rfl
      clear hc
      generalize zss[k] = zs at *
      obtain ⟨vo, vcap, rfl, -, -⟩ := hu
      go_wp2
      obtain ⟨wo, rfl⟩ : ∃ wo : World, wo = wr := ⟨_, rfl⟩
      go_loopw [5, 6] (fun r i wr => ∃ (q : Nat) (ps : List (Nm × Int)), q ≤ zs.length ∧ i = .int .i64 q ∧ Grow wr wo.heap.size r ps n ∧ Hid (ps.map (·.2) = zs.take q) ∧ Below wo.heap.size wo wr) (fun _ i _ => zs.length - (intOf i).toNat)
      case atStart => exact ⟨0, [], Nat.zero_le _, rfl, Grow.nil _ _ _, by show _ = _; simp, Below.refl _ _⟩
      case round =>
        obtain ⟨q, ps, hq, rfl, hgr, HP, hbi⟩ := hrel
        have HGR := hide hgr; have HBI := hide hbi
        have HPL : Hid (ps.length = q) := by
          have := congrArg List.length HP.out
          rw [List.length_map, List.length_take] at this
          show ps.length = q
          omega
        clear hgr hbi
        have cu2 : wr.cell? ⟨b, k, none⟩ = some (.slice vo zs.length vcap) := (HBI.out.cell (p := ⟨b, k, none⟩) hblt).trans cu
        by_cases hql : q < zs.length
        · obtain ⟨ab, _, e, la, rs, ro, rl, rc, a0, a1, na⟩ := (HU.out.below HBI.out (Nat.le_refl _)).at q hql
          simp only [Value.slice.injEq, true_and] at e
          obtain ⟨rfl, rfl⟩ := e
          have NA := hide na
          have HP' : Hid (∀ r : Nm, (ps ++ [(r, zs.getD q 0)]).map (·.2) = zs.take (q + 1)) := fun r => by
            rw [List.map_append, HP.out, List.take_succ_eq_append_getElem hql, List.getD_eq_getElem?_getD, List.getElem?_eq_getElem hql]; rfl
          clear na
          generalize zs.getD q 0 = z at *
          go_wp2_with fail
          refine (intR_new wr _ z n NA.out hn6).mono ?_
          rintro e w3 ⟨⟨r, rfl, hr3, hb3⟩, hnew⟩
          obtain ⟨⟨rn, ro', rl', rc'⟩, rfl⟩ := hr3.nm
          have HAP : Hid (apart u5.ownBlock (Nm.sl ⟨rn, ro', rl', rc'⟩)) := HGR.out.fresh (Nat.le_refl _) (hnew _ _ rfl)
          have HG3 := hide (HGR.out.later hb3)
          have HB3 := hide (HBI.out.trans (hb3.mono HBI.out.size))
          have HR3 : Hid (NumL w3 (Nm.val ⟨rn, ro', rl', rc'⟩) z n) := hr3
          have hown := HG3.out.1
          clear hr3 hb3 hnew HGR HBI a0 a1 cu2 NA
          go_wp2_with (at_builtin; refine wpList_append_lies _ rfl _ _ 23 rfl wo.heap.size 26 i0 (.agg #[.bool false, .slice none 0 0]) 2 32 (by kernel_rfl) hi hz0 hz1 hz2 rfl (by decide) u5 ps.length (ps.flatMap ncells) rfl (hown.alloc _) ⟨w3.heap.size, 0, none⟩ 1 1 [.bool rn, .slice ro' rl' rc'] rfl rfl (World.news_of_block (heap_alloc_new w3 _)) (fun u hu => by simp only [List.mem_cons, List.mem_nil_iff, or_false] at hu; rcases hu with rfl | rfl <;> rfl) (by decide) (by unfold maxLen; have := HPL.out; omega) (by have := HPL.out; omega) (by simp; have := HB3.out.size; omega) (w3.heap.size + 1) (by simp) ?_)
          intro g cap' w5 hown5 hgrow5 hat5 hlt5
          have HN := hide (grow_snoc HG3.out HR3.out HAP.out hown5 hgrow5 hat5)
          have HB5 := hide (HB3.out.trans (grow_below HG3.out HB3.out.size hgrow5))
          have HP5 := hide (HP'.out ⟨rn, ro', rl', rc'⟩)
          clear hown hown5 hgrow5 hat5 hlt5 HG3 HR3 HB3 HP' HP HAP
          go_wp2
          go_roundw
          case rel => exact ⟨q + 1, _, by omega, by go_num, HN.out, HP5, HB5.out⟩
          case measure => simp [intOf]; omega
        · obtain rfl : q = zs.length := by omega
          have HRR : Hid (VecN wr u5 zs n) := by
            have := HGR.out.vec
            rw [HP.out, List.take_length] at this
            exact this
          have HG3 := hide (HGV.out.later HBI.out)
          have HB3 := hide (HBE.out.trans (HBI.out.mono HBE.out.size))
          obtain ⟨so, sl, sc, rfl⟩ : ∃ so sl sc, u5 = .slice so sl sc := by
            obtain ⟨so, sc, e, -⟩ := HRR.out
            exact ⟨_, _, _, e⟩
          have hown := HG3.out.own
          have hall := HG3.out.all.later ((Below.refl _ _).alloc (Nat.le_refl _) (.cells #[.slice so sl sc] 23))
          have hbs := HB3.out.size
          clear HGR HP HPL
          go_wp2_with (at_builtin; refine wpList_append_sl rfl _ _ 28 rfl w.heap.size 23 j0 24 (by kernel_rfl) hj hy0 hy1 hy2 u3 qs.length (qs.map (·.1)) rfl (hown.alloc _) hall ⟨wr.heap.size, 0, none⟩ 1 so sl sc rfl (World.news_of_block (heap_alloc_new wr _)) (by unfold maxLen; have := HQL.out; omega) (by have := HQL.out; omega) (by simp; omega) ?_)
          intro g cap' w5 hown5 hgrow5 hall5
          have HG5 := hide (growV_snoc (HG3.out.later ((Below.refl _ _).alloc (Nat.le_refl _) _)) (HRR.out.below ((Below.refl _ _).alloc (Nat.le_refl _) _) (Nat.le_refl _)) hown5 hgrow5 hall5)
          have HB5 := hide ((HB3.out.alloc HB3.out.size _).trans (grownV_below (HG3.out.later ((Below.refl _ _).alloc (Nat.le_refl _) _)) (by simp; omega) hgrow5))
          have HQ5 := hide (HQ'.out (.slice so sl sc))
          clear hown hall hown5 hgrow5 hall5 HG3 HRR HB3 HQ' cu2
          go_wp2
          go_roundw
          case rel => exact ⟨k + 1, _, by omega, by go_num, HG5, HQ5, HB5⟩
          case measure => simp [intOf]; omega
    · obtain rfl : k = zss.length := by omega
      have HF : Hid (MatN wr u3 zss n) := by
        have := HGV.out.mat
        rw [HQ.out, List.take_length] at this
        exact this
      clear HGV HQ
      go_wp2
      go_ret
      exact ⟨_, rfl, HF.out, HBE.out⟩

end Go.Proofs.YtjblidoilphifabGreatDoor

/- The reference: a number's text. -/
namespace Go.Proofs.YtjblidoilphifabGreatDoor
open Go.RowKit Limbs Digs

/-- a power of ten -/
def pw : Nat → Int
  | 0 => 1
  | n + 1 => 10 * pw n

theorem pw_pos (n : Nat) : 0 < pw n := by
  induction n with
  | zero => decide
  | succ n ih => simp only [pw]; omega

/-- What is left, and the digits behind it, are the number's. -/
def TIs (M : Nat) (r : Int) (l : List UInt8) : Prop := (0 < r → Lib.decDigits M = Lib.decDigits r.toNat ++ l) ∧ (r = 0 → Lib.decDigits M = l)

theorem TIs.step {M : Nat} {r : Int} {l : List UInt8} (h : TIs M r l) (hr : 0 < r) : TIs M (r / 10) (UInt8.ofNat (48 + (r % 10).toNat) :: l) := by
  have h1 := h.1 hr
  obtain ⟨k, rfl⟩ := Int.eq_ofNat_of_zero_le (Int.le_of_lt hr)
  rw [Int.toNat_natCast] at h1
  have e1 : ((k : Int) / 10) = ((k / 10 : Nat) : Int) := by omega
  have e2 : ((k : Int) % 10) = ((k % 10 : Nat) : Int) := by omega
  rw [e1, e2, Int.toNat_natCast]
  by_cases hk : k < 10
  · have e : Lib.decDigits k = [UInt8.ofNat (48 + k)] := by rw [Lib.decDigits, dif_pos hk]
    rw [e] at h1
    refine ⟨fun h => by omega, fun _ => ?_⟩
    rw [h1, Nat.mod_eq_of_lt hk]
    rfl
  · have e : Lib.decDigits k = Lib.decDigits (k / 10) ++ [UInt8.ofNat (48 + k % 10)] := by rw [Lib.decDigits, dif_neg hk]
    rw [e] at h1
    refine ⟨fun _ => ?_, fun h => by omega⟩
    rw [h1, Int.toNat_natCast, List.append_assoc]
    rfl

/-- In a group of digits: so many of its digits are still to come. -/
structure DIn (M : Nat) (H : Int) (m : Nat) (d : Int) (l : List UInt8) : Prop where
  d0 : 0 ≤ d
  d1 : d < pw m
  h0 : 0 ≤ H
  txt : TIs M (d + pw m * H) l

theorem DIn.step {M : Nat} {H d : Int} {m : Nat} {l : List UInt8} (h : DIn M H (m + 1) d l) (hp : 0 < d ∨ 0 < H) : DIn M H m (d / 10) (UInt8.ofNat (48 + (d % 10).toNat) :: l) := by
  obtain ⟨h1, h2, h3, h4⟩ := h
  have hq := pw_pos m
  simp only [pw] at h2 h4
  have e0 : 10 * pw m * H = 10 * (pw m * H) := Int.mul_assoc _ _ _
  rw [e0] at h4
  have hn : 0 ≤ pw m * H := Int.mul_nonneg (by omega) h3
  have hpos : 0 < d + 10 * (pw m * H) := by
    rcases hp with hp | hp
    · omega
    · have : 0 < pw m * H := Int.mul_pos hq hp
      omega
  have := h4.step hpos
  refine ⟨by omega, by omega, h3, ?_⟩
  have e1 : (d + 10 * (pw m * H)) / 10 = d / 10 + pw m * H := by omega
  have e2 : (d + 10 * (pw m * H)) % 10 = d % 10 := by omega
  rw [e1, e2] at this
  exact this

theorem DIn.skip {M : Nat} {H d : Int} {m : Nat} {l : List UInt8} (h : DIn M H (m + 1) d l) (hd : ¬ 0 < d) (hH : H = 0) : DIn M H m (d / 10) l := by
  obtain ⟨h1, h2, h3, h4⟩ := h
  obtain rfl : d = 0 := by omega
  subst hH
  refine ⟨by omega, by have := pw_pos m; omega, by omega, ?_⟩
  simpa using h4

theorem one_byte (b : UInt8) (l : List UInt8) : (⟨#[b]⟩ : ByteArray) ++ ⟨l.toArray⟩ = ⟨(b :: l).toArray⟩ := by
  apply ByteArray.ext
  simp

theorem byte_back (W : World) (z : Int) (h0 : 0 ≤ z) (h1 : z < 10) : (convert 125 9 (.slice (some ⟨W.heap.size, 0, none⟩) 1 1)).run Tryz.prog (W.alloc (.cells #[.int .u8 (48 + z)] 5)) = .ok (.string ⟨#[UInt8.ofNat (48 + z.toNat)]⟩) (W.alloc (.cells #[.int .u8 (48 + z)] 5)) := by
  refine run_convert_bytes_back _ 125 9 5 ⟨W.heap.size, 0, none⟩ 1 [UInt8.ofNat (48 + z.toNat)] (by kernel_rfl) (by kernel_rfl) (by kernel_rfl) fun j hj => ?_
  obtain rfl : j = 0 := by simpa using hj
  have h := World.news_of_block (heap_alloc_new W (.cells #[.int .u8 (48 + z)] 5)) 0 _ rfl
  rw [h]
  have e : ((UInt8.ofNat (48 + z.toNat)).toNat : Int) = 48 + z := by
    rw [UInt8.toNat_ofNat']
    omega
  rw [List.getElem_cons_zero, e]

set_option maxRecDepth 100000 in
set_option maxHeartbeats 1600000 in
theorem decimal_of (w : World) (va : Value) (x : Int) (n : Nat) (ha : NumR w va x n) (hn : n ≤ 10000) :
    Calls Tryz.prog 67 #[va] w fun e w' => TextPost w x e w' := by
  obtain ⟨sa, la, a, rfl, hla, nra, hx, hsa, hna⟩ := ha
  have HA := hide hla
  obtain ⟨ao, acap, rfl, -, -, adb, hac⟩ := hla
  have hs := sign_of adb nra hsa
  have hb0 : Box (w.alloc (.cells #[.int .i64 sa, .slice ao a.length acap] 51)) w.heap.size (.int .i64 sa) (.slice ao a.length acap) := box_new w _ _ _ _ rfl
  have HW0 : Hid (Below w.heap.size w (w.alloc (.cells #[.int .i64 sa, .slice ao a.length acap] 51))) := (Below.refl _ _).alloc (Nat.le_refl _) _
  have HC := hide (fun (i : Nat) (h : i < a.length) => show ∃ b off, ao = some ⟨b, off, none⟩ ∧ b < w.heap.size ∧ w.cell? ⟨b, off + i, none⟩ = some (.int .i64 (a.getD i 0)) by
    obtain ⟨b, off, cur, fz, e, hb, hc⟩ := hac (by omega)
    exact ⟨b, off, e, heap_lt hb, hc i h⟩)
  clear hsa hac
  rcases hs with ⟨h1, rfl⟩ | ⟨h1, hs⟩
  · have HF : Hid (TextPost w x (.returned (.string ⟨#[48]⟩)) (w.alloc (.cells #[.int .i64 0, .slice ao a.length acap] 51))) := by
      refine ⟨?_, HW0.out⟩
      have : x = 0 := by rw [hx]; omega
      subst this
      have : txt 0 = [48] := by
        unfold txt Lib.itoa
        rw [if_neg (by decide), show (0 : Int).toNat = 0 from rfl, Lib.decDigits, dif_pos (by decide)]
        rfl
      rw [this]
    clear hx
    go_enter Tryz.func67, Tryz.ntmps67
    go_wp2
    go_ret
    exact HF.out
  · have hz1 : (sa == 0) = false := by rw [beq_eq_false_iff_ne]; omega
    obtain ⟨M, hM⟩ : ∃ M : Nat, dv a = (M : Int) := Int.eq_ofNat_of_zero_le (Int.le_of_lt h1)
    have HX := hide (show x = sa * (M : Int) by rw [hx, hM])
    have HT0 : Hid (TIs M (dv (a.drop 0)) []) := by
      rw [List.drop_zero, hM]
      exact ⟨fun _ => by rw [Int.toNat_natCast]; simp, fun h => by omega⟩
    have hal : a.length ≤ 10000 := by omega
    have hM0 : 0 < M := by omega
    clear hx h1
    obtain ⟨c0, c1, -, -⟩ := hb0
    go_enter Tryz.func67, Tryz.ntmps67
    go_wp2
    go_loopw [3, 4] (fun s i wr => ∃ (p : Nat) (l : List UInt8), p ≤ a.length ∧ i = .int .i64 p ∧ s = .string ⟨l.toArray⟩ ∧ l.length ≤ 4 * p ∧ TIs M (dv (a.drop p)) l ∧ Below (w.heap.size + 1) (w.alloc (.cells #[.int .i64 sa, .slice ao a.length acap] 51)) wr) (fun _ i _ => a.length - (intOf i).toNat)
    case atStart => exact ⟨0, [], Nat.zero_le _, rfl, rfl, by simp, HT0.out, Below.refl _ _⟩
    case round =>
      clear HT0
      obtain ⟨p, l, hp, rfl, rfl, hll, ht, hbw⟩ := hrel
      have hsz : (⟨l.toArray⟩ : ByteArray).size ≤ 40000 := by show l.toArray.size ≤ _; simp; omega
      have HT := hide ht
      have HBW := hide hbw
      have d0 := (hbw.cell (p := ⟨w.heap.size, 0, none⟩) (Nat.lt_succ_self _)).trans c0
      have d1 := (hbw.cell (p := ⟨w.heap.size, 1, none⟩) (Nat.lt_succ_self _)).trans c1
      clear ht hbw
      by_cases hlt : p < a.length
      · obtain ⟨ab, aoff, rfl, hbl, hcell⟩ := HC.out p hlt
        have hcw := (HBW.out.cell (p := ⟨ab, aoff + p, none⟩) (Nat.lt_succ_of_lt hbl)).trans (((HW0.out.cell (p := ⟨ab, aoff + p, none⟩) hbl)).trans hcell)
        have hdg := adb p
        have HDR := hide (show dv (a.drop p) = a.getD p 0 + 10000 * dv (a.drop (p + 1)) by rw [drop_cons_getD a p hlt]; rfl)
        have HH : Hid (0 ≤ dv (a.drop (p + 1)) ∧ (p + 1 < a.length → 0 < dv (a.drop (p + 1))) ∧ (¬ p + 1 < a.length → dv (a.drop (p + 1)) = 0)) := by
          have hdd := DB_drop adb (p + 1)
          refine ⟨dv_nonneg hdd, fun h => dv_pos hdd ?_ (by rw [List.length_drop]; omega), fun h => by rw [List.drop_eq_nil_of_le (by omega)]; rfl⟩
          rcases nra with h' | h'
          · omega
          · refine .inr ?_
            rw [List.length_drop, getD_drop, show p + 1 + (a.length - (p + 1) - 1) = a.length - 1 by omega]
            exact h'
        generalize a.getD p 0 = dg at *
        have ep : pw 4 = 10000 := by decide
        have HD : Hid (DIn M (dv (a.drop (p + 1))) 4 dg l) := ⟨hdg.1, by omega, HH.out.1, by rw [ep, ← HDR.out]; exact HT.out⟩
        clear hcell HDR HT
        generalize wr = W0 at *
        go_wp2
        go_loopw [3, 5, 6] (fun s d k w1 => ∃ (j : Nat) (l : List UInt8) (z : Int), j ≤ 4 ∧ k = .int .i64 j ∧ d = .int .i64 z ∧ s = .string ⟨l.toArray⟩ ∧ l.length ≤ 4 * p + j ∧ Hid (DIn M (dv (a.drop (p + 1))) (4 - j) z l) ∧ Hid (Below (w.heap.size + 1) (w.alloc (.cells #[.int .i64 sa, .slice (some ⟨ab, aoff, none⟩) a.length acap] 51)) w1)) (fun _ _ k _ => 4 - (intOf k).toNat)
        case atStart => exact ⟨0, l, dg, by omega, rfl, rfl, rfl, by omega, HD, HBW⟩
        case round =>
          clear HD d0 d1 hcw HBW
          obtain ⟨j, l', z, hj, rfl, rfl, rfl, hll', HD, HBW⟩ := hrel
          have hsz' : (⟨l'.toArray⟩ : ByteArray).size ≤ 50000 := by show l'.toArray.size ≤ _; simp; omega
          have d0 := (HBW.out.cell (p := ⟨w.heap.size, 0, none⟩) (Nat.lt_succ_self _)).trans c0
          have d1 := (HBW.out.cell (p := ⟨w.heap.size, 1, none⟩) (Nat.lt_succ_self _)).trans c1
          have hz0 := HD.out.d0
          have hzm : z < 10000 := by
            have h1 := HD.out.d1
            have h2 : pw (4 - j) ≤ 10000 := by rcases (by omega : j = 0 ∨ j = 1 ∨ j = 2 ∨ j = 3 ∨ j = 4) with rfl | rfl | rfl | rfl | rfl <;> decide
            omega
          by_cases hj4 : j < 4
          · have hm3 : z.tmod 10 = z % 10 := Int.tmod_eq_emod_of_nonneg hz0
            have hm4 : z.tdiv 10 = z / 10 := Int.tdiv_eq_ediv_of_nonneg hz0
            have e4 : 4 - j = (4 - (j + 1)) + 1 := by omega
            have HD' := hide (show DIn M (dv (a.drop (p + 1))) ((4 - (j + 1)) + 1) z l' by rw [← e4]; exact HD.out)
            clear HD e4
            by_cases hc : p + 1 < a.length ∨ 0 < z
            · have HS := hide (HD'.out.step (by rcases hc with hc | hc; exact .inr (HH.out.2.1 hc); exact .inl hc))
              clear HD'
              have hcv := byte_back wr (z % 10) (by omega) (by omega)
              have HBW' := hide (show Below (w.heap.size + 1) _ (wr.alloc (.cells #[.int .u8 (48 + z % 10)] 5)) from HBW.out.alloc (by have := HBW.out.size; simp at this; omega) _)
              clear HBW
              by_cases hc1 : p + 1 < a.length
              · have hlt2 : (p : Int) < (a.length : Int) - 1 := by omega
                go_wp2
                go_roundw
                case rel => exact ⟨j + 1, _, _, by omega, by go_num, rfl, by rw [one_byte, UInt8.ofNat_add]; rfl, by simp; omega, HS, HBW'⟩
                case measure => simp [intOf]; omega
              · have hlt2 : ¬ ((p : Int) < (a.length : Int) - 1) := by omega
                have hz1 : 0 < z := by omega
                go_wp2
                go_roundw
                case rel => exact ⟨j + 1, _, _, by omega, by go_num, rfl, by rw [one_byte, UInt8.ofNat_add]; rfl, by simp; omega, HS, HBW'⟩
                case measure => simp [intOf]; omega
            · have HS := hide (HD'.out.skip (by omega) (HH.out.2.2 (by omega)))
              have hlt2 : ¬ ((p : Int) < (a.length : Int) - 1) := by omega
              have hz1 : ¬ (0 < z) := by omega
              clear HD'
              go_wp2
              go_roundw
              case rel => exact ⟨j + 1, _, _, by omega, by go_num, rfl, rfl, by omega, HS, HBW⟩
              case measure => simp [intOf]; omega
          · obtain rfl : j = 4 := by omega
            have HN : Hid (TIs M (dv (a.drop (p + 1))) l') := by
              have h1 := HD.out.d1
              have h2 := HD.out.txt
              simp only [Nat.sub_self, pw] at h1 h2
              have : z = 0 := by omega
              subst this
              show TIs M _ l'
              simpa using h2
            clear HD
            go_wp2
            go_roundw
            case rel => exact ⟨p + 1, l', by omega, by go_num, rfl, by omega, HN.out, HBW.out⟩
            case measure => simp [intOf]; omega
      · obtain rfl : p = a.length := by omega
        have HL : Hid (Lib.decDigits M = l) := by
          have := HT.out.2 (by rw [List.drop_eq_nil_of_le (Nat.le_refl _)]; rfl)
          exact this
        have HB := hide (show Below w.heap.size w wr from HW0.out.trans (HBW.out.mono (Nat.le_succ _)))
        rcases hs with rfl | rfl
        · have HF : Hid (TextPost w x (.returned (.string ⟨l.toArray⟩)) wr) := ⟨by
            rw [← HL.out, HX.out]
            unfold txt Lib.itoa
            rw [if_neg (by omega)]
            simp, HB.out⟩
          clear HT HL HX
          go_wp2
          go_ret
          exact HF.out
        · have HF : Hid (TextPost w x (.returned (.string ⟨(45 :: l).toArray⟩)) wr) := ⟨by
            rw [← HL.out, HX.out]
            unfold txt Lib.itoa
            rw [if_pos (by omega)]
            have e : ((-1 : Int) * (M : Int)).natAbs = M := by omega
            rw [e], HB.out⟩
          clear HT HL HX
          go_wp2
          go_ret
          rw [one_byte]
          exact HF.out

end Go.Proofs.YtjblidoilphifabGreatDoor
