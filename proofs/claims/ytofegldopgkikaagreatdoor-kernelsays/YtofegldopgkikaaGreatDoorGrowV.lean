/- A vector that grows at its end; texts that do. -/
import Derived.Test.YtofegldopgkikaaGreatDoorMats
import Derived.Test.YtofegldopgkikaaGreatDoorRefH
import Derived.Test.YtofegldopgkikaaGreatDoorGcdA
import Derived.Test.YtofegldopgkikaaGreatDoorRowO

namespace Go.Proofs.YtofegldopgkikaaGreatDoor
open Go.RowKit Limbs Digs

/-- Limbs that don't lie in that block. -/
def apart (og : Option Nat) (s : Value) : Prop := ∀ a l c, s = .slice (some a) l c → 0 < l → some a.block ≠ og

theorem Lim.grown {W W' : World} {row : Option Nat} {s : Value} {zs : List Int} (h : Lim W s zs) (hg : W.grownBy W' row) (hne : apart row s) : Lim W' s zs := by
  obtain ⟨ao, cap, rfl, h1, h2, h3, h4⟩ := h
  refine ⟨ao, cap, rfl, h1, h2, h3, fun h0 => ?_⟩
  obtain ⟨b, off, rfl, hlt, hc⟩ := h4 h0
  have hb := hne _ _ _ rfl h0
  exact ⟨b, off, rfl, Nat.lt_of_lt_of_le hlt hg.size, fun i hi => hg.cell (hc i hi) hb⟩

def Nm.val (r : Nm) : Value := .agg #[.bool r.neg, .slice r.o r.l r.c]
def Nm.sl (r : Nm) : Value := .slice r.o r.l r.c
def ncells (p : Nm × Int) : List Value := [.bool p.1.neg, .slice p.1.o p.1.l p.1.c]

theorem NumL.grown {W W' : World} {row : Option Nat} {r : Nm} {z : Int} {n : Nat} (h : NumL W r.val z n) (hg : W.grownBy W' row) (hne : apart row r.sl) : NumL W' r.val z n := by
  obtain ⟨neg, s, zs, e, hl, h3⟩ := h
  simp only [Nm.val, Value.agg.injEq, Array.mk.injEq, List.cons.injEq, Value.bool.injEq, and_true] at e
  obtain ⟨rfl, rfl⟩ := e
  exact ⟨_, _, zs, rfl, hl.grown hg hne, h3⟩

theorem NumL.inside {W : World} {r : Nm} {z : Int} {n : Nat} (h : NumL W r.val z n) : ∀ a l c, r.sl = .slice (some a) l c → 0 < l → a.block < W.heap.size := fun a l c e h0 => by
  obtain ⟨neg, s, zs, e1, hl, -⟩ := h
  simp only [Nm.val, Value.agg.injEq, Array.mk.injEq, List.cons.injEq, Value.bool.injEq, and_true] at e1
  obtain ⟨rfl, rfl⟩ := e1
  obtain ⟨ao, cap, e2, -, -, -, h4⟩ := hl
  unfold Nm.sl at e
  rw [e] at e2
  simp only [Value.slice.injEq] at e2
  obtain ⟨rfl, rfl, rfl⟩ := e2
  obtain ⟨b, off, e3, hlt, -⟩ := h4 h0
  simp only [Option.some.injEq] at e3
  rw [e3]
  exact hlt

/-- A row of numbers in memory of its own, that may grow. -/
def Grow (W : World) (base : Nat) (v : Value) (ps : List (Nm × Int)) (n : Nat) : Prop :=
  W.ownsRow base 46 2 v ps.length (ps.flatMap ncells) ∧ ∀ p ∈ ps, NumL W p.1.val p.2 n ∧ apart v.ownBlock p.1.sl

theorem Grow.nil (W : World) (base n : Nat) : Grow W base (.slice none 0 0) [] n := ⟨World.ownsRow_nil _ _ _ _, fun _ h => by cases h⟩

theorem Grow.later {W W' : World} {base : Nat} {v : Value} {ps : List (Nm × Int)} {n : Nat} (h : Grow W base v ps n) (hb : Below W.heap.size W W') : Grow W' base v ps n := by
  refine ⟨?_, fun p hp => ⟨(h.2 p hp).1.below hb (Nat.le_refl _), (h.2 p hp).2⟩⟩
  refine ⟨h.1.1, ?_⟩
  rcases h.1.2 with hn | ⟨g, cap, cur, e, hbg, hh, rest⟩
  · exact .inl hn
  · exact .inr ⟨g, cap, cur, e, hbg, (hb.block _ (heap_lt hh)).trans hh, rest⟩

theorem Grow.fresh {W W0 : World} {base : Nat} {v : Value} {ps : List (Nm × Int)} {n : Nat} (h : Grow W base v ps n) (hs : W.heap.size ≤ W0.heap.size) {s : Value} (hn : NewSl W0 s) : apart v.ownBlock s := fun a l c e _ hb => by
  have h1 := hn a l c e
  have h2 := (h.1.lt _ hb.symm).2
  omega

theorem grow_snoc {base : Nat} {wr w3 : World} {v : Value} {ps : List (Nm × Int)} {n : Nat} {r : Nm} {z : Int} {g cap : Nat} {ob : Obj} (h : Grow wr base v ps n) (hz : NumL wr r.val z n) (ha : apart v.ownBlock r.sl)
    (hown : w3.ownsRow base 46 2 (.slice (some ⟨g, 0, none⟩) (ps.length + 1) cap) (ps.length + 1) (ps.flatMap ncells ++ ncells (r, z)))
    (hg : (wr.alloc ob).grownBy w3 v.ownBlock) (hat : v.ownBlock = some g ∨ g = wr.heap.size + 1) : Grow w3 base (.slice (some ⟨g, 0, none⟩) (ps.length + 1) cap) (ps ++ [(r, z)]) n := by
  refine ⟨by rw [List.length_append, List.length_singleton, List.flatMap_append, List.flatMap_singleton]; exact hown, fun p hp => ?_⟩
  have key : ∀ p : Nm × Int, NumL wr p.1.val p.2 n → apart v.ownBlock p.1.sl → NumL w3 p.1.val p.2 n ∧ apart (some g) p.1.sl := fun p h1 h2 => by
    refine ⟨(h1.below ((Below.refl _ _).alloc (Nat.le_refl _) ob) (Nat.le_refl _)).grown hg h2, fun a l c e h0 hb => ?_⟩
    rcases hat with h | h
    · exact h2 a l c e h0 (hb.trans h.symm)
    · have := h1.inside a l c e h0
      simp only [Option.some.injEq] at hb
      omega
  rcases List.mem_append.1 hp with h' | h'
  · exact key p (h.2 p h').1 (h.2 p h').2
  · rw [List.mem_singleton] at h'
    rw [h']
    exact key (r, z) hz ha

theorem grow_below {base : Nat} {wr w3 : World} {v : Value} {ps : List (Nm × Int)} {n : Nat} {ob : Obj} (h : Grow wr base v ps n) (hB : base ≤ wr.heap.size) (hg : (wr.alloc ob).grownBy w3 v.ownBlock) : Below base wr w3 :=
  ((Below.refl _ _).alloc hB _).grown hg (by simp; omega) (fun k hk => (h.1.lt k hk).1)

theorem ncells_at (ps : List (Nm × Int)) : ∀ i (h : i < ps.length), (ps.flatMap ncells)[i * 2]? = some (.bool ps[i].1.neg) ∧ (ps.flatMap ncells)[i * 2 + 1]? = some (.slice ps[i].1.o ps[i].1.l ps[i].1.c) := by
  induction ps with
  | nil => intro i h; exact absurd h (by simp)
  | cons p ps ih =>
    intro i h
    rw [List.flatMap_cons]
    cases i with
    | zero => exact ⟨rfl, rfl⟩
    | succ i =>
      obtain ⟨h1, h2⟩ := ih i (by simpa using h)
      have e1 : (i + 1) * 2 = i * 2 + 2 := by omega
      rw [e1, show i * 2 + 2 + 1 = i * 2 + 1 + 2 by omega, List.getElem?_append_right (by simp [ncells]), List.getElem?_append_right (by simp [ncells])]
      exact ⟨h1, h2⟩

/-- It is a vector of these numbers. -/
theorem Grow.vec {W : World} {base : Nat} {v : Value} {ps : List (Nm × Int)} {n : Nat} (h : Grow W base v ps n) : VecN W v (ps.map (·.2)) n := by
  obtain ⟨⟨-, h1⟩, h2⟩ := h
  have hlen : (ps.map (·.2)).length = ps.length := List.length_map ..
  rcases h1 with ⟨rfl, hn⟩ | ⟨g, cap, cur, rfl, hb, hh, hc1, hc2, hc3, hc4⟩
  · exact ⟨none, 0, by rw [hlen, hn], by rw [hlen]; omega, fun h0 => absurd h0 (by rw [hlen]; omega)⟩
  · refine ⟨_, cap, by rw [hlen], by rw [hlen]; exact hc1, fun h0 => ⟨g, 0, rfl, heap_lt hh, fun i hi => ?_⟩⟩
    rw [hlen] at hi
    obtain ⟨e1, e2⟩ := ncells_at ps i hi
    have hcell : ∀ k u, k < ps.length * 2 → (ps.flatMap ncells)[k]? = some u → W.cell? ⟨g, 0 + k, none⟩ = some u := fun k u hk hu => by
      have := World.news_of_block hh k u (by rw [← hc4, List.getElem?_take, if_pos hk] at hu; exact hu)
      have e : (⟨g, 0, none⟩ : Addr).add k = ⟨g, 0 + k, none⟩ := by unfold Addr.add; split <;> simp_all
      rwa [e] at this
    refine ⟨ps[i].1.neg, ps[i].1.o, ps[i].1.l, ps[i].1.c, hcell _ _ (by omega) e1, hcell _ _ (by omega) e2, ?_⟩
    have e3 : (ps.map (·.2)).getD i 0 = ps[i].2 := by
      rw [List.getD_eq_getElem?_getD, List.getElem?_map, List.getElem?_eq_getElem hi]; rfl
    rw [e3]
    exact (h2 _ (List.getElem_mem hi)).1

end Go.Proofs.YtofegldopgkikaaGreatDoor

/- The reference: one row of its own becomes a vector. -/
namespace Go.Proofs.YtofegldopgkikaaGreatDoor
open Go.RowKit Limbs Digs

theorem VecN.grown {W W' : World} {v : Value} {zs : List Int} {n : Nat} (h : VecN W v zs n) (hg : W.grownBy W' none) : VecN W' v zs n := by
  obtain ⟨ao, cap, hv, h1, h2⟩ := h
  refine ⟨ao, cap, hv, h1, fun h0 => ?_⟩
  obtain ⟨b, off, e, hlt, hc⟩ := h2 h0
  refine ⟨b, off, e, Nat.lt_of_lt_of_le hlt hg.size, fun i hi => ?_⟩
  obtain ⟨neg, o, l, c, h3, h4, h5⟩ := hc i hi
  exact ⟨neg, o, l, c, hg.cell h3 (by simp), hg.cell h4 (by simp), NumL.grown (r := ⟨neg, o, l, c⟩) h5 hg (fun _ _ _ _ _ h => by cases h)⟩

end Go.Proofs.YtofegldopgkikaaGreatDoor

/- Rows of vectors that grow at their end. Their own block holds slices alone: so no number lies in it, and what is appended changes no vector. -/
namespace Go.Proofs.YtofegldopgkikaaGreatDoor
open Go.RowKit Limbs

/-- That block holds slices alone. -/
def AllSl (W : World) (row : Option Nat) : Prop := ∀ g, row = some g → ∃ cur t fz, W.heap[g]? = some (.cells cur t fz) ∧ ∀ u, u ∈ cur.toList → ∃ o l c, u = .slice o l c

theorem allSl_none (W : World) : AllSl W none := fun _ h => by cases h

theorem AllSl.cell {W : World} {g : Nat} (h : AllSl W (some g)) {k : Nat} {u : Value} (hc : W.cell? ⟨g, k, none⟩ = some u) : ∃ o l c, u = .slice o l c := by
  obtain ⟨cur, t, fz, hh, hs⟩ := h g rfl
  rw [cell_of_row W g k cur t fz hh] at hc
  refine hs u ?_
  obtain ⟨hk, e⟩ := Array.getElem?_eq_some_iff.1 hc
  rw [← e]
  exact Array.getElem_mem_toList hk

theorem AllSl.later {W W' : World} {row : Option Nat} (h : AllSl W row) (hb : Below W.heap.size W W') : AllSl W' row := fun g hg => by
  obtain ⟨cur, t, fz, hh, hs⟩ := h g hg
  exact ⟨cur, t, fz, (hb.block _ (heap_lt hh)).trans hh, hs⟩

theorem Lim.grownS {W W' : World} {row : Option Nat} {s : Value} {zs : List Int} (h : Lim W s zs) (hg : W.grownBy W' row) (hr : AllSl W row) : Lim W' s zs := by
  obtain ⟨ao, cap, rfl, h1, h2, h3, h4⟩ := h
  refine ⟨ao, cap, rfl, h1, h2, h3, fun h0 => ?_⟩
  obtain ⟨b, off, e, hlt, hc⟩ := h4 h0
  have hne : some b ≠ row := fun e' => by
    subst e'
    obtain ⟨o, l, c, e⟩ := hr.cell (hc 0 h0)
    cases e
  exact ⟨b, off, e, Nat.lt_of_lt_of_le hlt hg.size, fun i hi => hg.cell (hc i hi) hne⟩

theorem NumL.grownS {W W' : World} {row : Option Nat} {v : Value} {z : Int} {n : Nat} (h : NumL W v z n) (hg : W.grownBy W' row) (hr : AllSl W row) : NumL W' v z n := by
  obtain ⟨neg, s, zs, h1, h2, h3⟩ := h
  exact ⟨neg, s, zs, h1, h2.grownS hg hr, h3⟩

theorem VecN.grownS {W W' : World} {row : Option Nat} {v : Value} {zs : List Int} {n : Nat} (h : VecN W v zs n) (hg : W.grownBy W' row) (hr : AllSl W row) : VecN W' v zs n := by
  obtain ⟨ao, cap, hv, h1, h2⟩ := h
  refine ⟨ao, cap, hv, h1, fun h0 => ?_⟩
  obtain ⟨b, off, e, hlt, hc⟩ := h2 h0
  have hne : some b ≠ row := fun e' => by
    subst e'
    obtain ⟨neg, _, _, _, h3, -⟩ := hc 0 h0
    obtain ⟨o, l, c, e⟩ := hr.cell h3
    cases e
  refine ⟨b, off, e, Nat.lt_of_lt_of_le hlt hg.size, fun i hi => ?_⟩
  obtain ⟨neg, o, l, c, h3, h4, h5⟩ := hc i hi
  exact ⟨neg, o, l, c, hg.cell h3 hne, hg.cell h4 hne, h5.grownS hg hr⟩

theorem zero_sl (n : Nat) : ∀ u, u ∈ (Builtin.zeroCells (Value.cells (.slice none 0 0)) n).toList → ∃ o l c, u = .slice o l c := fun u hu => by
  simp only [Builtin.zeroCells, Array.toList_map, List.mem_map] at hu
  obtain ⟨i, -, rfl⟩ := hu
  exact ⟨none, 0, 0, by
    have : i % (Value.cells (.slice none 0 0)).size = 0 := by simp [Value.cells, Nat.mod_one]
    rw [this]; rfl⟩

/-- A slice is appended to slices. -/
theorem run_append_sl {P : Program} (w : World) (t ty : TypeId) (base : Nat) (e : TypeId) (i : TypeInfo) (ht : P.underlying t = some (.slice e)) (hi : P.info? e = some i) (hz : i.zero = some (.slice none 0 0))
    (hsize : i.size = 1) (v : Value) (n : Nat) (xs : List Value) (hown : w.ownsRow base e 1 v n xs) (hall : AllSl w v.ownBlock)
    (ad : Addr) (o : Option Addr) (l c cc : Nat) (hnews : ∀ j u, [Value.slice o l c][j]? = some u → w.cell? (ad.add j) = some u)
    (h63 : n + 1 ≤ maxLen) (hbytes : (n + 1) * i.bytes ≤ 140737488355328) (g cap : Nat) (w' : World)
    (hr : (Builtin.append_ #[t, t] ty #[v, .slice (some ad) 1 cc]).run P w = .ok (.slice (some ⟨g, 0, none⟩) (n + 1) cap) w') : AllSl w' (some g) := by
  have hx : ∀ u, u ∈ xs → ∃ o l c, u = .slice o l c := by
    rcases hown.2 with ⟨rfl, rfl⟩ | ⟨g', cap', cur, rfl, hbg, hg, hnc, hcm, hcs, htake⟩
    · have : xs = [] := List.eq_nil_of_length_eq_zero (by simpa using hown.1)
      rw [this]
      exact fun _ h => by cases h
    · intro u hu
      obtain ⟨cur', t', fz', hh, hs⟩ := hall g' rfl
      rw [hg] at hh
      simp only [Option.some.injEq, Obj.cells.injEq] at hh
      obtain ⟨rfl, -, -⟩ := hh
      rw [← htake] at hu
      exact hs u (List.mem_of_mem_take hu)
  have hmake : ∀ (k : Nat) (ys : List Value), (∀ u, u ∈ ys → ∃ o l c, u = .slice o l c) → AllSl (w.drew.alloc (.cells (ys.toArray ++ Builtin.zeroCells (Value.cells (.slice none 0 0)) k) e)) (some w.heap.size) := fun k ys hy g0 hg0 => by
    simp only [Option.some.injEq] at hg0
    subst hg0
    refine ⟨_, _, _, heap_alloc_new w.drew _, fun u hu => ?_⟩
    rw [Array.toList_append, List.mem_append] at hu
    rcases hu with hu | hu
    · exact hy u (by simpa using hu)
    · exact zero_sl k u hu
  have hsl : ∀ u, u ∈ [Value.slice o l c] → ∃ o l c, u = .slice o l c := fun u hu => by
    rw [List.mem_singleton] at hu
    exact ⟨o, l, c, hu⟩
  have h1c : ∀ u ∈ [Value.slice o l c], u.oneCell' = true := fun u hu => by
    rw [List.mem_singleton] at hu
    rw [hu]; rfl
  have hsmall : n + 1 ≤ 9223372036854775807 := by simp only [maxLen] at h63; omega
  rcases hown.2 with ⟨rfl, rfl⟩ | ⟨g', cap', cur, rfl, hbg, hg, hnc, hcm, hcs, htake⟩
  · have hr' := run_append_nil (P := P) w t ty e i (.slice none 0 0) ht hi hz ad 1 cc [Value.slice o l c] (by rw [hsize]; rfl) hnews (by decide) (by decide) (by simp only [Nat.zero_add] at hbytes; omega)
    rw [hr'] at hr
    simp only [Result.ok.injEq, Value.slice.injEq, Option.some.injEq, Addr.mk.injEq, and_true] at hr
    obtain ⟨⟨rfl, -⟩, rfl⟩ := hr
    exact hmake _ _ hsl
  · by_cases hroom : n + 1 ≤ cap'
    · have hr' := run_append_room (P := P) w t ty e i ht hi g' n cap' cur hg ad 1 cc [Value.slice o l c] (by rw [hsize]; rfl) hnews h1c hroom (by rw [hsize, hcs]; simp; omega)
      rw [hr'] at hr
      simp only [Result.ok.injEq, Value.slice.injEq, Option.some.injEq, Addr.mk.injEq, and_true, true_and] at hr
      obtain ⟨⟨rfl, -⟩, rfl⟩ := hr
      intro g0 hg0
      simp only [Option.some.injEq] at hg0
      subst hg0
      refine ⟨_, _, _, setRow_heap w g' cur _ e _ hg, fun u hu => ?_⟩
      obtain ⟨cur', t', fz', hh, hs⟩ := hall g' rfl
      rw [hg] at hh
      simp only [Option.some.injEq, Obj.cells.injEq] at hh
      obtain ⟨rfl, -, -⟩ := hh
      simp only [List.mem_append] at hu
      rcases hu with (hu | hu) | hu
      · exact hs u (List.mem_of_mem_take hu)
      · exact hsl u hu
      · exact hs u (List.mem_of_mem_drop hu)
    · have holds : ∀ j u, xs[j]? = some u → w.cell? ((⟨g', 0, none⟩ : Addr).add j) = some u := hown.cells (g := g') rfl
      have hr' := run_append_grow (P := P) w t ty e i (.slice none 0 0) ht hi hz ⟨g', 0, none⟩ n cap' xs (by rw [hsize]; exact hown.1) holds ad 1 cc [Value.slice o l c] (by rw [hsize]; rfl) hnews (by omega) (by omega) (growslice_fits (by omega) hbytes)
      rw [hr'] at hr
      simp only [Result.ok.injEq, Value.slice.injEq, Option.some.injEq, Addr.mk.injEq, and_true, true_and] at hr
      obtain ⟨⟨rfl, -⟩, rfl⟩ := hr
      have := hmake (grownCap w (n + 1) cap' e - (n + 1)) (xs ++ [Value.slice o l c]) (fun u hu => by
        rcases List.mem_append.1 hu with h | h
        · exact hx u h
        · exact hsl u h)
      rwa [← List.append_toArray] at this

/-- The same, at the list of a plain region's operations. -/
theorem wpList_append_sl {P : Program} {w : World} {ops : Array Oper} {rest : List Oper} {op : Oper} {a : Act} {Q : Exit → Act → World → Prop} (hgd : op.guard = none) (s x : Operand) (t : TypeId)
    (ho : op.op = .call { callee := .builtin .append, args := #[s, x], argTypes := #[t, t] })
    (base : Nat) (e : TypeId) (i : TypeInfo) (bytes : Nat) (ht : P.underlying t = some (.slice e)) (hi : P.info? e = some i) (hz : i.zero = some (.slice none 0 0))
    (hsize : i.size = 1) (hby : i.bytes = bytes) (v : Value) (n : Nat) (xs : List Value) (hs : a.eval s = v) (hown : w.ownsRow base e 1 v n xs) (hall : AllSl w v.ownBlock)
    (ad : Addr) (cc : Nat) (o : Option Addr) (l c : Nat) (hx : a.eval x = .slice (some ad) 1 cc) (hnews : ∀ j u, [Value.slice o l c][j]? = some u → w.cell? (ad.add j) = some u)
    (h63 : n + 1 ≤ maxLen) (hbytes : (n + 1) * bytes ≤ 140737488355328) (hbase : base ≤ w.heap.size)
    (h : ∀ g cap w', w'.ownsRow base e 1 (.slice (some ⟨g, 0, none⟩) (n + 1) cap) (n + 1) (xs ++ [.slice o l c]) → w.grownBy w' v.ownBlock → AllSl w' (some g) → wpList P ops Q rest (a.put op.dst (.slice (some ⟨g, 0, none⟩) (n + 1) cap)) w') : wpList P ops Q (op :: rest) a w := by
  refine wpList_plain hgd fun K hK => ?_
  subst hby
  obtain ⟨g, cap, w', hr, h2, h3, h4, h5⟩ := run_append_lies (P := P) w t op.type base e i (.slice none 0 0) 1 i.bytes ht hi hz hsize rfl rfl (by decide) v n xs hown ad 1 cc [.slice o l c] rfl hnews (fun u hu => by rw [List.mem_singleton] at hu; rw [hu]; rfl) (by decide) h63 hbytes hbase _ rfl
  have hA := run_append_sl w t op.type base e i ht hi hz hsize v n xs hown hall ad o l c cc hnews h63 hbytes g cap w' hr
  unfold Oper.wp execOp
  simp only [ho, resolve, invoke, builtin, Sem.run_bind, Sem.run_pure, Result.andThen_ok, List.map_toArray, List.map_cons, List.map_nil, hs, hx, hr]
  exact hK _ _ (h g cap w' h2 h3 hA)

/-- Rows of vectors that grow. -/
structure GrowV (W : World) (base : Nat) (v : Value) (qs : List (Value × List Int)) (n : Nat) : Prop where
  own : W.ownsRow base 39 1 v qs.length (qs.map (·.1))
  all : AllSl W v.ownBlock
  vec : ∀ q ∈ qs, VecN W q.1 q.2 n

theorem GrowV.nil (W : World) (base n : Nat) : GrowV W base (.slice none 0 0) [] n := ⟨World.ownsRow_nil _ _ _ _, allSl_none _, fun _ h => by cases h⟩

theorem GrowV.later {W W' : World} {base : Nat} {v : Value} {qs : List (Value × List Int)} {n : Nat} (h : GrowV W base v qs n) (hb : Below W.heap.size W W') : GrowV W' base v qs n :=
  ⟨ownsRow_later h.own hb, h.all.later hb, fun p hp => (h.vec p hp).below hb (Nat.le_refl _)⟩

theorem GrowV.mono {W : World} {base : Nat} {v : Value} {qs : List (Value × List Int)} {n m : Nat} (h : GrowV W base v qs n) (hm : n ≤ m) : GrowV W base v qs m :=
  ⟨h.own, h.all, fun p hp => (h.vec p hp).mono hm⟩

theorem growV_snoc {base : Nat} {W w' : World} {v : Value} {qs : List (Value × List Int)} {n : Nat} {o : Option Addr} {l c : Nat} {zs : List Int} {g cap : Nat} (h : GrowV W base v qs n) (hz : VecN W (.slice o l c) zs n)
    (hown : w'.ownsRow base 39 1 (.slice (some ⟨g, 0, none⟩) (qs.length + 1) cap) (qs.length + 1) (qs.map (·.1) ++ [.slice o l c]))
    (hg : W.grownBy w' v.ownBlock) (hA : AllSl w' (some g)) : GrowV w' base (.slice (some ⟨g, 0, none⟩) (qs.length + 1) cap) (qs ++ [(.slice o l c, zs)]) n := by
  refine ⟨by rw [List.length_append, List.length_singleton, List.map_append]; exact hown, hA, fun p hp => ?_⟩
  rcases List.mem_append.1 hp with h' | h'
  · exact (h.vec p h').grownS hg h.all
  · rw [List.mem_singleton] at h'
    rw [h']
    exact hz.grownS hg h.all

theorem GrowV.mat {W : World} {base : Nat} {v : Value} {qs : List (Value × List Int)} {n : Nat} (h : GrowV W base v qs n) : MatN W v (qs.map (·.2)) n := matN_of_owns h.own h.vec

theorem grownV_below {base : Nat} {W w' : World} {v : Value} {qs : List (Value × List Int)} {n : Nat} (h : GrowV W base v qs n) (hB : base ≤ W.heap.size) (hg : W.grownBy w' v.ownBlock) : Below base W w' :=
  (Below.refl _ _).grown hg hB (fun k hk => (h.own.lt k hk).1)

end Go.Proofs.YtofegldopgkikaaGreatDoor
