/- The reference's rows: numbers in a row, and rows of these, that grow at their end. -/
import Derived.Test.YtdedolkgcdlmeaaGreatDoorDigs
import Derived.Test.YtdedolkgcdlmeaaGreatDoorRefJ
import Derived.OwnWalk
import Derived.Test.YtdedolkgcdlmeaaGreatDoorRefC
import Derived.Laws.MakeOwn

namespace Go.Proofs.YtdedolkgcdlmeaaGreatDoor
open Go.RowKit Limbs Digs

/-- That block holds no numbers of the kind that digits are. -/
def Typed (W : World) (row : Option Nat) (ts : List TypeId) : Prop := ∀ g, row = some g → ∃ cur t fz, W.heap[g]? = some (.cells cur t fz) ∧ t ∉ ts

theorem Typed.none (W : World) (ts : List TypeId) : Typed W none ts := fun _ h => by cases h

theorem Dig.grown {W W' : World} {row : Option Nat} {v : Value} {ds : List Int} (h : Dig W v ds) (hg : W.grownBy W' row) (hr : Typed W row [3]) : Dig W' v ds := by
  obtain ⟨ao, cap, hv, h1, h2, h3, h4⟩ := h
  refine ⟨ao, cap, hv, h1, h2, h3, fun h0 => ?_⟩
  obtain ⟨b, off, cur, fz, e, hb, hc⟩ := h4 h0
  have hne : some b ≠ row := fun e => by
    obtain ⟨cur', t, fz', h5, h6⟩ := hr b e.symm
    rw [hb] at h5
    simp only [Option.some.injEq, Obj.cells.injEq] at h5
    exact h6 (by rw [← h5.2.1]; exact List.mem_singleton.2 rfl)
  exact ⟨b, off, cur, fz, e, (hg.block b (heap_lt hb) hne).trans hb, fun i hi => hg.cell (hc i hi) hne⟩

theorem NumR.grown {W W' : World} {row : Option Nat} {v : Value} {z : Int} {n : Nat} (h : NumR W v z n) (hg : W.grownBy W' row) (hr : Typed W row [3]) : NumR W' v z n := by
  obtain ⟨s, sl, ds, h1, h2, h3⟩ := h
  exact ⟨s, sl, ds, h1, h2.grown hg hr, h3⟩

structure Rn where
  s : Int
  o : Option Addr
  l : Nat
  c : Nat

def Rn.val (r : Rn) : Value := .agg #[.int .i64 r.s, .slice r.o r.l r.c]
def rcells (p : Rn × Int) : List Value := [.int .i64 p.1.s, .slice p.1.o p.1.l p.1.c]

/-- A row of the reference's numbers. -/
def RowR (W : World) (v : Value) (zs : List Int) (n : Nat) : Prop :=
  ∃ ao cap, v = .slice ao zs.length cap ∧ zs.length ≤ cap ∧ (0 < zs.length → ∃ b cur fz, ao = some ⟨b, 0, none⟩ ∧ W.heap[b]? = some (.cells cur 40 fz) ∧
    ∀ i, i < zs.length → ∃ (s : Int) (o : Option Addr) (l c : Nat), W.cell? ⟨b, i * 2, none⟩ = some (.int .i64 s) ∧ W.cell? ⟨b, i * 2 + 1, none⟩ = some (.slice o l c) ∧ NumR W (.agg #[.int .i64 s, .slice o l c]) (zs.getD i 0) n)

theorem RowR.below {B : Nat} {W W' : World} {v : Value} {zs : List Int} {n : Nat} (h : RowR W v zs n) (hb : Below B W W') (hB : W.heap.size ≤ B) : RowR W' v zs n := by
  obtain ⟨ao, cap, hv, h1, h2⟩ := h
  refine ⟨ao, cap, hv, h1, fun h0 => ?_⟩
  obtain ⟨b, cur, fz, e, hh, hc⟩ := h2 h0
  have hlt := heap_lt hh
  refine ⟨b, cur, fz, e, (hb.block _ (by omega)).trans hh, fun i hi => ?_⟩
  obtain ⟨s, o, l, c, h3, h4, h5⟩ := hc i hi
  exact ⟨s, o, l, c, (hb.cell (p := ⟨b, i * 2, none⟩) (by show b < B; omega)).trans h3, (hb.cell (p := ⟨b, i * 2 + 1, none⟩) (by show b < B; omega)).trans h4, h5.below hb hB⟩

theorem RowR.grown {W W' : World} {row : Option Nat} {v : Value} {zs : List Int} {n : Nat} (h : RowR W v zs n) (hg : W.grownBy W' row) (hr : Typed W row [3, 40]) : RowR W' v zs n := by
  obtain ⟨ao, cap, hv, h1, h2⟩ := h
  refine ⟨ao, cap, hv, h1, fun h0 => ?_⟩
  obtain ⟨b, cur, fz, e, hh, hc⟩ := h2 h0
  have hr' : Typed W row [3] := fun g hg => by
    obtain ⟨cur', t, fz', h5, h6⟩ := hr g hg
    exact ⟨cur', t, fz', h5, fun h => h6 (by rw [List.mem_singleton] at h; rw [h]; exact List.mem_cons_self)⟩
  have hne : some b ≠ row := fun e => by
    obtain ⟨cur', t, fz', h5, h6⟩ := hr b e.symm
    rw [hh] at h5
    simp only [Option.some.injEq, Obj.cells.injEq] at h5
    exact h6 (by rw [← h5.2.1]; exact List.mem_cons_of_mem _ (List.mem_singleton.2 rfl))
  refine ⟨b, cur, fz, e, (hg.block b (heap_lt hh) hne).trans hh, fun i hi => ?_⟩
  obtain ⟨s, o, l, c, h3, h4, h5⟩ := hc i hi
  exact ⟨s, o, l, c, hg.cell h3 hne, hg.cell h4 hne, h5.grown hg hr'⟩

theorem RowR.at {W : World} {v : Value} {zs : List Int} {n : Nat} (h : RowR W v zs n) (i : Nat) (hi : i < zs.length) : ∃ b cap, v = .slice (some ⟨b, 0, none⟩) zs.length cap ∧ b < W.heap.size ∧ ∃ (s : Int) (o : Option Addr) (l c : Nat), W.cell? ⟨b, i * 2, none⟩ = some (.int .i64 s) ∧ W.cell? ⟨b, i * 2 + 1, none⟩ = some (.slice o l c) ∧ NumR W (.agg #[.int .i64 s, .slice o l c]) (zs.getD i 0) n := by
  obtain ⟨ao, cap, rfl, -, h2⟩ := h
  obtain ⟨b, cur, fz, rfl, hh, hc⟩ := h2 (by omega)
  exact ⟨b, cap, rfl, heap_lt hh, hc i hi⟩

/-- One that grows. -/
def GrowR (W : World) (base : Nat) (v : Value) (ps : List (Rn × Int)) (n : Nat) : Prop :=
  W.ownsRow base 40 2 v ps.length (ps.flatMap rcells) ∧ ∀ p ∈ ps, NumR W p.1.val p.2 n

theorem GrowR.nil (W : World) (base n : Nat) : GrowR W base (.slice none 0 0) [] n := ⟨World.ownsRow_nil _ _ _ _, fun _ h => by cases h⟩

theorem ownsRow_typed {W : World} {base : Nat} {e : TypeId} {size : Nat} {v : Value} {n : Nat} {xs : List Value} {ts : List TypeId} (h : W.ownsRow base e size v n xs) (he : e ∉ ts) : Typed W v.ownBlock ts := fun g hg => by
  rcases h.2 with ⟨rfl, -⟩ | ⟨g', cap, cur, rfl, hbg, hh, -⟩
  · cases hg
  · simp only [Value.ownBlock, Option.some.injEq] at hg
    rw [← hg]
    exact ⟨cur, e, _, hh, he⟩

theorem GrowR.later {W W' : World} {base : Nat} {v : Value} {ps : List (Rn × Int)} {n : Nat} (h : GrowR W base v ps n) (hb : Below W.heap.size W W') : GrowR W' base v ps n :=
  ⟨ownsRow_later h.1 hb, fun p hp => (h.2 p hp).below hb (Nat.le_refl _)⟩

theorem Typed.alloc {W : World} {row : Option Nat} {ts : List TypeId} (h : Typed W row ts) (ob : Obj) : Typed (W.alloc ob) row ts := fun g hg => by
  obtain ⟨cur, t, fz, h1, h2⟩ := h g hg
  exact ⟨cur, t, fz, (((Below.refl W.heap.size W).alloc (Nat.le_refl _) ob).block _ (heap_lt h1)).trans h1, h2⟩

theorem growR_snoc {base : Nat} {wr w3 : World} {v : Value} {ps : List (Rn × Int)} {n : Nat} {r : Rn} {z : Int} {g cap : Nat} {ob : Obj} (h : GrowR wr base v ps n) (hz : NumR wr r.val z n)
    (hown : w3.ownsRow base 40 2 (.slice (some ⟨g, 0, none⟩) (ps.length + 1) cap) (ps.length + 1) (ps.flatMap rcells ++ rcells (r, z)))
    (hg : (wr.alloc ob).grownBy w3 v.ownBlock) : GrowR w3 base (.slice (some ⟨g, 0, none⟩) (ps.length + 1) cap) (ps ++ [(r, z)]) n := by
  have hty : Typed (wr.alloc ob) v.ownBlock [3] := (ownsRow_typed h.1 (by decide)).alloc ob
  refine ⟨by rw [List.length_append, List.length_singleton, List.flatMap_append, List.flatMap_singleton]; exact hown, fun p hp => ?_⟩
  rcases List.mem_append.1 hp with h' | h'
  · exact ((h.2 p h').below ((Below.refl _ _).alloc (Nat.le_refl _) ob) (Nat.le_refl _)).grown hg hty
  · rw [List.mem_singleton] at h'
    rw [h']
    exact (hz.below ((Below.refl _ _).alloc (Nat.le_refl _) ob) (Nat.le_refl _)).grown hg hty

theorem rcells_at (ps : List (Rn × Int)) : ∀ i (h : i < ps.length), (ps.flatMap rcells)[i * 2]? = some (.int .i64 ps[i].1.s) ∧ (ps.flatMap rcells)[i * 2 + 1]? = some (.slice ps[i].1.o ps[i].1.l ps[i].1.c) := by
  induction ps with
  | nil => intro i h; exact absurd h (by simp)
  | cons p ps ih =>
    intro i h
    rw [List.flatMap_cons]
    cases i with
    | zero => exact ⟨rfl, rfl⟩
    | succ i =>
      obtain ⟨h1, h2⟩ := ih i (by simpa using h)
      have e1 : (i + 1) * 2 = i * 2 + 2 := by omega
      rw [e1, show i * 2 + 2 + 1 = i * 2 + 1 + 2 by omega, List.getElem?_append_right (by simp [rcells]), List.getElem?_append_right (by simp [rcells])]
      exact ⟨h1, h2⟩

theorem GrowR.row {W : World} {base : Nat} {v : Value} {ps : List (Rn × Int)} {n : Nat} (h : GrowR W base v ps n) : RowR W v (ps.map (·.2)) n := by
  obtain ⟨⟨-, h1⟩, h2⟩ := h
  have hlen : (ps.map (·.2)).length = ps.length := List.length_map ..
  rcases h1 with ⟨rfl, hn⟩ | ⟨g, cap, cur, rfl, hb, hh, hc1, hc2, hc3, hc4⟩
  · exact ⟨none, 0, by rw [hlen, hn], by rw [hlen]; omega, fun h0 => absurd h0 (by rw [hlen]; omega)⟩
  · refine ⟨_, cap, by rw [hlen], by rw [hlen]; exact hc1, fun h0 => ⟨g, cur, _, rfl, hh, fun i hi => ?_⟩⟩
    rw [hlen] at hi
    obtain ⟨e1, e2⟩ := rcells_at ps i hi
    have hcell : ∀ k u, k < ps.length * 2 → (ps.flatMap rcells)[k]? = some u → W.cell? ⟨g, k, none⟩ = some u := fun k u hk hu => by
      have := World.news_of_block hh k u (by rw [← hc4, List.getElem?_take, if_pos hk] at hu; exact hu)
      have e : (⟨g, 0, none⟩ : Addr).add k = ⟨g, k, none⟩ := by unfold Addr.add; split <;> simp_all
      rwa [e] at this
    refine ⟨ps[i].1.s, ps[i].1.o, ps[i].1.l, ps[i].1.c, hcell _ _ (by omega) e1, hcell _ _ (by omega) e2, ?_⟩
    have e3 : (ps.map (·.2)).getD i 0 = ps[i].2 := by
      rw [List.getD_eq_getElem?_getD, List.getElem?_map, List.getElem?_eq_getElem hi]; rfl
    rw [e3]
    exact h2 _ (List.getElem_mem hi)

/-- Rows of the reference's numbers. -/
def MatR (W : World) (v : Value) (zss : List (List Int)) (n : Nat) : Prop :=
  ∃ ao cap, v = .slice ao zss.length cap ∧ zss.length ≤ cap ∧ (0 < zss.length → ∃ b, ao = some ⟨b, 0, none⟩ ∧ b < W.heap.size ∧ ∀ i zs, zss[i]? = some zs → ∃ u, W.cell? ⟨b, i, none⟩ = some u ∧ RowR W u zs n)

theorem MatR.below {B : Nat} {w w' : World} {v : Value} {zss : List (List Int)} {n : Nat} (h : MatR w v zss n) (hb : Below B w w') (hB : w.heap.size ≤ B) : MatR w' v zss n := by
  obtain ⟨ao, cap, hv, h1, h2⟩ := h
  refine ⟨ao, cap, hv, h1, fun h0 => ?_⟩
  obtain ⟨b, e, hlt, hc⟩ := h2 h0
  refine ⟨b, e, Nat.lt_of_lt_of_le hlt hb.size, fun i zs hi => ?_⟩
  obtain ⟨u, h3, h4⟩ := hc i zs hi
  exact ⟨u, (hb.cell (p := ⟨b, i, none⟩) (Nat.lt_of_lt_of_le hlt hB)).trans h3, h4.below hb hB⟩

/-- Rows that grow. -/
def GrowM (W : World) (base : Nat) (v : Value) (qs : List (Value × List Int)) (n : Nat) : Prop :=
  W.ownsRow base 106 1 v qs.length (qs.map (·.1)) ∧ ∀ q ∈ qs, RowR W q.1 q.2 n

theorem GrowM.later {W W' : World} {base : Nat} {v : Value} {qs : List (Value × List Int)} {n : Nat} (h : GrowM W base v qs n) (hb : Below W.heap.size W W') : GrowM W' base v qs n :=
  ⟨ownsRow_later h.1 hb, fun p hp => (h.2 p hp).below hb (Nat.le_refl _)⟩

theorem growM_snoc {base : Nat} {wr w3 : World} {v : Value} {qs : List (Value × List Int)} {n : Nat} {u : Value} {zs : List Int} {g cap : Nat} {ob : Obj} (h : GrowM wr base v qs n) (hz : RowR wr u zs n)
    (hown : w3.ownsRow base 106 1 (.slice (some ⟨g, 0, none⟩) (qs.length + 1) cap) (qs.length + 1) (qs.map (·.1) ++ [u]))
    (hg : (wr.alloc ob).grownBy w3 v.ownBlock) : GrowM w3 base (.slice (some ⟨g, 0, none⟩) (qs.length + 1) cap) (qs ++ [(u, zs)]) n := by
  have hty : Typed (wr.alloc ob) v.ownBlock [3, 40] := (ownsRow_typed h.1 (by decide)).alloc ob
  refine ⟨by rw [List.length_append, List.length_singleton, List.map_append]; exact hown, fun p hp => ?_⟩
  rcases List.mem_append.1 hp with h' | h'
  · exact ((h.2 p h').below ((Below.refl _ _).alloc (Nat.le_refl _) ob) (Nat.le_refl _)).grown hg hty
  · rw [List.mem_singleton] at h'
    rw [h']
    exact (hz.below ((Below.refl _ _).alloc (Nat.le_refl _) ob) (Nat.le_refl _)).grown hg hty

theorem GrowM.mat {W : World} {base : Nat} {v : Value} {qs : List (Value × List Int)} {n : Nat} (h : GrowM W base v qs n) : MatR W v (qs.map (·.2)) n := by
  obtain ⟨⟨-, h1⟩, h2⟩ := h
  have hlen : (qs.map (·.2)).length = qs.length := List.length_map ..
  rcases h1 with ⟨rfl, hn⟩ | ⟨g, cap, cur, rfl, hb, hh, hc1, hc2, hc3, hc4⟩
  · exact ⟨none, 0, by rw [hlen, hn], by rw [hlen]; omega, fun h0 => absurd h0 (by rw [hlen]; omega)⟩
  · refine ⟨_, cap, by rw [hlen], by rw [hlen]; exact hc1, fun h0 => ⟨g, rfl, heap_lt hh, fun i zs hi => ?_⟩⟩
    obtain ⟨hi', e⟩ := List.getElem?_eq_some_iff.1 hi
    rw [hlen] at hi'
    have e' : zs = qs[i].2 := by rw [← e, List.getElem_map]
    have := World.news_of_block hh i qs[i].1 (by
      have e : (qs.map (·.1))[i]? = some qs[i].1 := by rw [List.getElem?_map, List.getElem?_eq_getElem hi']; rfl
      rw [← hc4, List.getElem?_take, if_pos (by omega)] at e
      exact e)
    have ea : (⟨g, 0, none⟩ : Addr).add i = ⟨g, i, none⟩ := by unfold Addr.add; split <;> simp_all
    rw [ea] at this
    exact ⟨_, this, by rw [e']; exact h2 _ (List.getElem_mem hi')⟩

end Go.Proofs.YtdedolkgcdlmeaaGreatDoor

/- The reference: rows as they came in become its own. -/
namespace Go.Proofs.YtdedolkgcdlmeaaGreatDoor
open Go.RowKit Limbs Digs

theorem Tryz.infoRNum : (Tryz.prog.info? 40).map (fun i => (i.zero, i.size, i.bytes)) = some (some (.agg #[.int .i64 0, .slice none 0 0]), 2, 32) := by kernel_rfl
theorem Tryz.infoRRow : (Tryz.prog.info? 106).map (fun i => (i.zero, i.size, i.bytes)) = some (some (.slice none 0 0), 1, 24) := by kernel_rfl

set_option maxRecDepth 100000 in
set_option maxHeartbeats 1600000 in
theorem fromMat_any (w : World) (v : Value) (zss : List (List Int)) (n : Nat) (hv : MatN w v zss n) (hn : n ≤ 1000) (hl : zss.length ≤ 1000) (hr : ∀ zs ∈ zss, zs.length ≤ 1000) :
    Calls Tryz.prog 18 #[v] w fun e w' => ∃ u, e = .returned u ∧ MatR w' u zss (3 * n) ∧ Below w.heap.size w w' := by
  obtain ⟨i0, hi, hz0, hz1, hz2⟩ := info_parts Tryz.infoRNum
  obtain ⟨j0, hj, hy0, hy1, hy2⟩ := info_parts Tryz.infoRRow
  have HV := hide hv; have HR := hide hr
  obtain ⟨ao, cap, rfl, -, -⟩ := hv
  clear hr
  go_enter Tryz.func18, Tryz.ntmps18
  go_wp2
  go_loopw [3, 4] (fun out i wr => ∃ (k : Nat) (qs : List (Value × List Int)), k ≤ zss.length ∧ i = .int .i64 k ∧ GrowM wr w.heap.size out qs (3 * n) ∧ Hid (qs.map (·.2) = zss.take k) ∧ Below w.heap.size w wr) (fun _ i _ => zss.length - (intOf i).toNat)
  case atStart => exact ⟨0, [], Nat.zero_le _, rfl, ⟨World.ownsRow_nil _ _ _ _, fun _ h => by cases h⟩, by show _ = _; simp, Below.refl _ _⟩
  case round =>
    obtain ⟨k, qs, hk, rfl, hgm, HQ, hbe⟩ := hrel
    have HGM := hide hgm; have HBE := hide hbe
    have HQL : Hid (qs.length = k) := by
      have := congrArg List.length HQ.out
      rw [List.length_map, List.length_take] at this
      show qs.length = k
      omega
    clear hgm hbe
    by_cases hkl : k < zss.length
    · obtain ⟨_, _, e, -, hc⟩ := HV.out.below HBE.out (Nat.le_refl _)
      simp only [Value.slice.injEq, true_and] at e
      obtain ⟨rfl, rfl⟩ := e
      obtain ⟨b, off, rfl, hblt, hc⟩ := hc (by omega)
      obtain ⟨u, cu, hu⟩ := hc k zss[k] (by simp [hkl])
      have HU := hide hu
      have hzl := HR.out _ (List.getElem_mem hkl)
      have HQ' : Hid (∀ r : Value, (qs ++ [(r, zss[k])]).map (·.2) = zss.take (k + 1)) := fun r => by
        rw [List.map_append, HQ.out, List.take_succ_eq_append_getElem hkl]; rfl
      clear hc
      generalize zss[k] = zs at *
      obtain ⟨vo, vcap, rfl, -, -⟩ := hu
      go_wp2
      obtain ⟨wo, rfl⟩ : ∃ wo : World, wo = wr := ⟨_, rfl⟩
      go_loopw [5, 6] (fun r i wr => ∃ (q : Nat) (ps : List (Rn × Int)), q ≤ zs.length ∧ i = .int .i64 q ∧ GrowR wr wo.heap.size r ps (3 * n) ∧ Hid (ps.map (·.2) = zs.take q) ∧ Below wo.heap.size wo wr) (fun _ i _ => zs.length - (intOf i).toNat)
      case atStart => exact ⟨0, [], Nat.zero_le _, rfl, GrowR.nil _ _ _, by show _ = _; simp, Below.refl _ _⟩
      case round =>
        obtain ⟨q, ps, hq, rfl, hgr, HP, hbi⟩ := hrel
        have HGR := hide hgr; have HBI := hide hbi
        have HPL : Hid (ps.length = q) := by
          have := congrArg List.length HP.out
          rw [List.length_map, List.length_take] at this
          show ps.length = q
          omega
        clear hgr hbi
        by_cases hql : q < zs.length
        · have cu2 : wr.cell? ⟨b, off + k, none⟩ = some (.slice vo zs.length vcap) := (HBI.out.cell (p := ⟨b, off + k, none⟩) hblt).trans cu
          obtain ⟨ab, aoff, _, e⟩ := HU.out.form (by omega)
          simp only [Value.slice.injEq, true_and] at e
          obtain ⟨rfl, rfl⟩ := e
          obtain ⟨la, an, ao, al, ac, a0, a1, na⟩ := (HU.out.below HBI.out (Nat.le_refl _)).at q hql
          have NA := hide na
          have HP' : Hid (∀ r : Rn, (ps ++ [(r, zs.getD q 0)]).map (·.2) = zs.take (q + 1)) := fun r => by
            rw [List.map_append, HP.out, List.take_succ_eq_append_getElem hql, List.getD_eq_getElem?_getD, List.getElem?_eq_getElem hql]; rfl
          clear na
          generalize zs.getD q 0 = z at *
          go_wp2_with fail
          refine (from_any wr _ z n NA.out (by omega)).mono ?_
          rintro e w3 ⟨r, rfl, hr, hb3⟩
          obtain ⟨rs, ro, rl, rc, rfl, -⟩ := hr.form
          have HG3 := hide (HGR.out.later hb3)
          have HB3 := hide (HBI.out.trans (hb3.mono HBI.out.size))
          have HR3 : Hid (NumR w3 (Rn.val ⟨rs, ro, rl, rc⟩) z (3 * n)) := hr
          have hown := HG3.out.1
          clear hr hb3 HGR HBI a0 a1 cu2 NA
          go_wp2_with (at_builtin; refine wpList_append_lies _ rfl _ _ 106 rfl wo.heap.size 40 i0 (.agg #[.int .i64 0, .slice none 0 0]) 2 32 (by kernel_rfl) hi hz0 hz1 hz2 rfl (by decide) u5 ps.length (ps.flatMap rcells) rfl (hown.alloc _) ⟨w3.heap.size, 0, none⟩ 1 1 [.int .i64 rs, .slice ro rl rc] rfl rfl (World.news_of_block (heap_alloc_new w3 _)) (fun u hu => by simp only [List.mem_cons, List.mem_nil_iff, or_false] at hu; rcases hu with rfl | rfl <;> rfl) (by decide) (by unfold maxLen; have := HPL.out; omega) (by have := HPL.out; omega) (by simp; have := HB3.out.size; omega) (w3.heap.size + 1) (by simp) ?_)
          intro g cap' w5 hown5 hgrow5 hat5 hlt5
          have HN := hide (growR_snoc HG3.out HR3.out hown5 hgrow5)
          have HB5 := hide (HB3.out.trans (owns_below hown HB3.out.size hgrow5))
          have HP5 := hide (HP'.out ⟨rs, ro, rl, rc⟩)
          clear hown hown5 hgrow5 hat5 hlt5 HG3 HR3 HB3 HP' HP
          go_wp2
          go_roundw
          case rel => exact ⟨q + 1, _, by omega, by go_num, HN.out, HP5, HB5.out⟩
          case measure => simp [intOf]; omega
        · obtain rfl : q = zs.length := by omega
          have cu2 : wr.cell? ⟨b, off + k, none⟩ = some (.slice vo zs.length vcap) := (HBI.out.cell (p := ⟨b, off + k, none⟩) hblt).trans cu
          have HRR : Hid (RowR wr u5 zs (3 * n)) := by
            have := HGR.out.row
            rw [HP.out, List.take_length] at this
            exact this
          have HG2 := hide (HGM.out.later HBI.out)
          have HB2 := hide (HBE.out.trans (HBI.out.mono HBE.out.size))
          obtain ⟨so, sl, sc, rfl⟩ : ∃ so sl sc, u5 = .slice so sl sc := by
            obtain ⟨so, sc, e, -⟩ := HRR.out
            exact ⟨_, _, _, e⟩
          have hown := HG2.out.1
          clear HGR HP HPL
          go_wp2_with (at_builtin; refine wpList_append_lies _ rfl _ _ 43 rfl w.heap.size 106 j0 (.slice none 0 0) 1 24 (by kernel_rfl) hj hy0 hy1 hy2 rfl (by decide) u3 qs.length (qs.map (·.1)) rfl (hown.alloc _) ⟨wr.heap.size, 0, none⟩ 1 1 [.slice so sl sc] rfl rfl (World.news_of_block (heap_alloc_new wr _)) (fun u hu => by rw [List.mem_singleton] at hu; rw [hu]; rfl) (by decide) (by unfold maxLen; have := HQL.out; omega) (by have := HQL.out; omega) (by simp; have := HB2.out.size; omega) (wr.heap.size + 1) (by simp) ?_)
          intro g cap' w5 hown5 hgrow5 hat5 hlt5
          have HN := hide (growM_snoc HG2.out HRR.out hown5 hgrow5)
          have HB5 := hide (HB2.out.trans (owns_below hown HB2.out.size hgrow5))
          have HQ5 := hide (HQ'.out (.slice so sl sc))
          clear hown hown5 hgrow5 hat5 hlt5 HG2 HRR HB2 HQ' HQ cu2
          go_wp2
          go_roundw
          case rel => exact ⟨k + 1, _, by omega, by go_num, HN.out, HQ5, HB5.out⟩
          case measure => simp [intOf]; omega
    · obtain rfl : k = zss.length := by omega
      have HF : Hid (MatR wr u3 zss (3 * n)) := by
        have := HGM.out.mat
        rw [HQ.out, List.take_length] at this
        exact this
      clear HGM HQ
      go_wp2
      go_ret
      exact ⟨_, rfl, HF.out, HBE.out⟩

end Go.Proofs.YtdedolkgcdlmeaaGreatDoor

/- A row of the reference's numbers of one's own, being made. -/
namespace Go.Proofs.YtdedolkgcdlmeaaGreatDoor
open Go.RowKit Limbs Digs

theorem NumR.nought (w : World) (n : Nat) : NumR w (.agg #[.int .i64 0, .slice none 0 0]) 0 n :=
  ⟨0, .slice none 0 0, [], rfl, ⟨none, 0, rfl, Nat.le_refl _, by simp, by intro i; simp, fun h => absurd h (by simp)⟩, .inl rfl, by simp, .inl ⟨rfl, rfl, rfl⟩, by simp⟩

/-- Such a row: it lies in its own block; each place has its own bound. -/
structure RowO (w W : World) (P : Nat) (zs : List Int) (nb : Nat → Nat) : Prop where
  cells : ∀ i, i < zs.length → ∃ (s : Int) (o : Option Addr) (l c : Nat), W.cell? ⟨P, i * 2, none⟩ = some (.int .i64 s) ∧ W.cell? ⟨P, i * 2 + 1, none⟩ = some (.slice o l c) ∧ NumR W (.agg #[.int .i64 s, .slice o l c]) (zs.getD i 0) (nb i)
  low : w.heap.size ≤ P
  below : Below w.heap.size w W
  blk : ∃ cs, W.heap[P]? = some (.cells cs 40)

theorem RowO.lt {w W : World} {P : Nat} {zs : List Int} {nb : Nat → Nat} (h : RowO w W P zs nb) : P < W.heap.size := by
  obtain ⟨cs, e⟩ := h.blk
  exact heap_lt e

theorem RowO.later {w W W' : World} {P : Nat} {zs : List Int} {nb : Nat → Nat} (h : RowO w W P zs nb) (hb : Below W.heap.size W W') : RowO w W' P zs nb where
  cells := fun i hi => by
    obtain ⟨s, o, l, c, h1, h2, h3⟩ := h.cells i hi
    exact ⟨s, o, l, c, (hb.cell (p := ⟨P, i * 2, none⟩) h.lt).trans h1, (hb.cell (p := ⟨P, i * 2 + 1, none⟩) h.lt).trans h2, h3.below hb (Nat.le_refl _)⟩
  low := h.low
  below := h.below.trans (hb.mono h.below.size)
  blk := by obtain ⟨cs, e⟩ := h.blk; exact ⟨cs, (hb.block _ (heap_lt e)).trans e⟩

theorem RowO.drew {w W : World} {P : Nat} {zs : List Int} {nb : Nat → Nat} (h : RowO w W P zs nb) : RowO w W.drew P zs nb := ⟨h.cells, h.low, h.below.drew, h.blk⟩

theorem RowO.mono {w W : World} {P : Nat} {zs : List Int} {nb nb' : Nat → Nat} (h : RowO w W P zs nb) (hn : ∀ i, i < zs.length → nb i ≤ nb' i) : RowO w W P zs nb' where
  cells := fun i hi => by
    obtain ⟨s, o, l, c, h1, h2, h3⟩ := h.cells i hi
    exact ⟨s, o, l, c, h1, h2, h3.mono (hn i hi)⟩
  low := h.low
  below := h.below
  blk := h.blk

theorem RowO.thaw {w W : World} {P : Nat} {zs : List Int} {nb : Nat → Nat} (h : RowO w W P zs nb) (k : Nat) : W.frozen? ⟨P, k, none⟩ = false := by
  obtain ⟨cs, e⟩ := h.blk
  simp [World.frozen?, e]

theorem madeR_cell (m i : Nat) (hi : i < m) : (madeCells #[.int .i64 0, .slice none 0 0] (m * 2))[i * 2]? = some (.int .i64 0) ∧ (madeCells #[.int .i64 0, .slice none 0 0] (m * 2))[i * 2 + 1]? = some (.slice none 0 0) := by
  have h1 : i * 2 < m * 2 := by omega
  have h2 : i * 2 + 1 < m * 2 := by omega
  have e1 : i * 2 % 2 = 0 := by omega
  have e2 : (i * 2 + 1) % 2 = 1 := by omega
  constructor
  · simp [madeCells, h1, e1]
  · simp [madeCells, h2, e2]

theorem RowO.made (w W : World) (hb : Below w.heap.size w W) (m : Nat) (nb : Nat → Nat) : RowO w (W.alloc (.cells (madeCells #[.int .i64 0, .slice none 0 0] (m * 2)) 40)) W.heap.size (List.replicate m 0) nb where
  cells := fun i hi => by
    rw [List.length_replicate] at hi
    refine ⟨0, none, 0, 0, ?_, ?_, ?_⟩
    · rw [World.cell?_alloc_new]; exact (madeR_cell m i hi).1
    · rw [World.cell?_alloc_new]; exact (madeR_cell m i hi).2
    · have e : (List.replicate m (0 : Int)).getD i 0 = 0 := by
        rw [List.getD_eq_getElem?_getD, List.getElem?_replicate]
        split <;> rfl
      rw [e]
      exact NumR.nought _ _
  low := hb.size
  below := hb.alloc hb.size _
  blk := ⟨_, heap_alloc_new W _⟩

theorem NumR.setTyped {w : World} {v : Value} {z : Int} {n : Nat} (h : NumR w v z n) {B : Nat} {c : Array Value} {t : TypeId} {fz : Nat × Nat} (hB : w.heap[B]? = some (.cells c t fz)) (ht : t ≠ 3) (k : Nat) (u : Value) : NumR (w.setCell ⟨B, k, none⟩ u) v z n := by
  obtain ⟨s, sl, ds, h1, h2, h3⟩ := h
  exact ⟨s, sl, ds, h1, h2.setCell hB ht k u, h3⟩

theorem RowO.set {w W : World} {P : Nat} {zs : List Int} {nb : Nat → Nat} (h : RowO w W P zs nb) {k : Nat} (hk : k < zs.length) {s : Int} {o : Option Addr} {l c : Nat} {z : Int} {m : Nat} (hz : NumR W (.agg #[.int .i64 s, .slice o l c]) z m) :
    RowO w ((W.setCell ⟨P, k * 2, none⟩ (.int .i64 s)).setCell ⟨P, k * 2 + 1, none⟩ (.slice o l c)) P (zs.set k z) (fun i => if i = k then m else nb i) := by
  obtain ⟨cs, hblk⟩ := h.blk
  have hblk' := heap_setCell_same W P (k * 2) _ _ (.int .i64 s) hblk
  obtain ⟨s0, o0, l0, c0, k0, k1, -⟩ := h.cells k hk
  have k1' : (W.setCell ⟨P, k * 2, none⟩ (.int .i64 s)).cell? ⟨P, k * 2 + 1, none⟩ = some (.slice o0 l0 c0) := (World.cell?_setCell_other (h := fun e => by simp at e) ..).trans k1
  have keep : ∀ {v : Value} {y : Int} {q : Nat}, NumR W v y q → NumR ((W.setCell ⟨P, k * 2, none⟩ (.int .i64 s)).setCell ⟨P, k * 2 + 1, none⟩ (.slice o l c)) v y q := fun hv =>
    (hv.setTyped hblk (by decide) _ _).setTyped hblk' (by decide) _ _
  have hlen : (zs.set k z).length = zs.length := List.length_set
  refine ⟨fun i hi => ?_, h.low, (h.below.setCell (by exact h.low) _).setCell (by exact h.low) _, ⟨_, heap_setCell_same _ P (k * 2 + 1) _ _ _ hblk'⟩⟩
  rw [hlen] at hi
  by_cases hik : i = k
  · subst hik
    refine ⟨s, o, l, c, (World.cell?_setCell_other (h := fun e => by simp at e) ..).trans (World.cell?_setCell_same (h := k0) ..), World.cell?_setCell_same (h := k1') .., ?_⟩
    have e : (zs.set i z).getD i 0 = z := by rw [List.getD_eq_getElem?_getD, List.getElem?_set_self hi]; rfl
    rw [e, if_pos rfl]
    exact keep hz
  · obtain ⟨s1, o1, l1, c1, m0, m1, m2⟩ := h.cells i hi
    refine ⟨s1, o1, l1, c1, ?_, ?_, ?_⟩
    · exact ((World.cell?_setCell_other (h := fun e => by simp at e <;> omega) ..).trans (World.cell?_setCell_other (h := fun e => by simp at e <;> omega) ..)).trans m0
    · exact ((World.cell?_setCell_other (h := fun e => by simp at e <;> omega) ..).trans (World.cell?_setCell_other (h := fun e => by simp at e <;> omega) ..)).trans m1
    · have e : (zs.set k z).getD i 0 = zs.getD i 0 := by
        rw [List.getD_eq_getElem?_getD, List.getD_eq_getElem?_getD, List.getElem?_set_ne (by omega)]
      rw [e, if_neg hik]
      exact keep m2

/-- As a row. -/
theorem RowO.row {w W : World} {P : Nat} {zs : List Int} {nb : Nat → Nat} {n : Nat} (h : RowO w W P zs nb) (hn : ∀ i, i < zs.length → nb i ≤ n) : RowR W (.slice (some ⟨P, 0, none⟩) zs.length zs.length) zs n := by
  obtain ⟨cs, hblk⟩ := h.blk
  refine ⟨_, _, rfl, Nat.le_refl _, fun _ => ⟨P, cs, _, rfl, hblk, fun i hi => ?_⟩⟩
  obtain ⟨s, o, l, c, h1, h2, h3⟩ := h.cells i hi
  exact ⟨s, o, l, c, h1, h2, h3.mono (hn i hi)⟩

end Go.Proofs.YtdedolkgcdlmeaaGreatDoor
