/- Many rows of vectors are appended at once. -/
import Derived.Test.YtdedolkgcdlmeaaGreatDoorVecFl
import Derived.Test.YtdedolkgcdlmeaaGreatDoorDetV

namespace Go.Proofs.YtdedolkgcdlmeaaGreatDoor
open Go.RowKit Limbs

/-- Slices are appended to slices. -/
theorem run_append_slm {P : Program} (w : World) (t ty : TypeId) (base : Nat) (e : TypeId) (i : TypeInfo) (ht : P.underlying t = some (.slice e)) (hi : P.info? e = some i) (hz : i.zero = some (.slice none 0 0))
    (hsize : i.size = 1) (v : Value) (n : Nat) (xs : List Value) (hown : w.ownsRow base e 1 v n xs) (hall : AllSl w v.ownBlock)
    (ad : Addr) (m cc : Nat) (news : List Value) (hl : news.length = m) (hm : 0 < m) (hsl : ∀ u, u ∈ news → ∃ o l c, u = .slice o l c) (hnews : ∀ j u, news[j]? = some u → w.cell? (ad.add j) = some u)
    (h63 : n + m ≤ maxLen) (hbytes : (n + m) * i.bytes ≤ 140737488355328) (g cap : Nat) (w' : World)
    (hr : (Builtin.append_ #[t, t] ty #[v, .slice (some ad) m cc]).run P w = .ok (.slice (some ⟨g, 0, none⟩) (n + m) cap) w') : AllSl w' (some g) := by
  have hx : ∀ u, u ∈ xs → ∃ o l c, u = .slice o l c := by
    rcases hown.2 with ⟨rfl, rfl⟩ | ⟨g', cap', cur, rfl, hbg, hg, hnc, hcm, hcs, htake⟩
    · have : xs = [] := List.eq_nil_of_length_eq_zero (by simpa using hown.1)
      rw [this]
      exact fun _ h => by cases h
    · intro u hu
      obtain ⟨cur', t', fz', hh, hs⟩ := hall g' rfl
      rw [hg] at hh
      simp only [Option.some.injEq, Obj.cells.injEq] at hh
      obtain ⟨rfl, -, -⟩ := hh
      rw [← htake] at hu
      exact hs u (List.mem_of_mem_take hu)
  have hmake : ∀ (k : Nat) (ys : List Value), (∀ u, u ∈ ys → ∃ o l c, u = .slice o l c) → AllSl (w.drew.alloc (.cells (ys.toArray ++ Builtin.zeroCells (Value.cells (.slice none 0 0)) k) e)) (some w.heap.size) := fun k ys hy g0 hg0 => by
    simp only [Option.some.injEq] at hg0
    subst hg0
    refine ⟨_, _, _, heap_alloc_new w.drew _, fun u hu => ?_⟩
    rw [Array.toList_append, List.mem_append] at hu
    rcases hu with hu | hu
    · exact hy u (by simpa using hu)
    · exact zero_sl k u hu
  have h1c : ∀ u ∈ news, u.oneCell' = true := fun u hu => by
    obtain ⟨o, l, c, rfl⟩ := hsl u hu
    rfl
  have hl1 : news.length = m * i.size := by rw [hsize, hl, Nat.mul_one]
  have hsmall : n + m ≤ 9223372036854775807 := by simp only [maxLen] at h63; omega
  rcases hown.2 with ⟨rfl, rfl⟩ | ⟨g', cap', cur, rfl, hbg, hg, hnc, hcm, hcs, htake⟩
  · have hr' := run_append_nil (P := P) w t ty e i (.slice none 0 0) ht hi hz ad m cc news hl1 hnews hm (by omega) (by simp only [Nat.zero_add] at hbytes; omega)
    rw [hr'] at hr
    simp only [Result.ok.injEq, Value.slice.injEq, Option.some.injEq, Addr.mk.injEq, and_true] at hr
    obtain ⟨⟨rfl, -⟩, rfl⟩ := hr
    exact hmake _ _ hsl
  · by_cases hroom : n + m ≤ cap'
    · have hr' := run_append_room (P := P) w t ty e i ht hi g' n cap' cur hg ad m cc news hl1 hnews h1c hroom (by rw [hsize, hcs, hl]; omega)
      rw [hr'] at hr
      simp only [Result.ok.injEq, Value.slice.injEq, Option.some.injEq, Addr.mk.injEq, and_true, true_and] at hr
      obtain ⟨⟨rfl, -⟩, rfl⟩ := hr
      intro g0 hg0
      simp only [Option.some.injEq] at hg0
      subst hg0
      refine ⟨_, _, _, setRow_heap w g' cur _ e _ hg, fun u hu => ?_⟩
      obtain ⟨cur', t', fz', hh, hs⟩ := hall g' rfl
      rw [hg] at hh
      simp only [Option.some.injEq, Obj.cells.injEq] at hh
      obtain ⟨rfl, -, -⟩ := hh
      simp only [List.mem_append] at hu
      rcases hu with (hu | hu) | hu
      · exact hs u (List.mem_of_mem_take hu)
      · exact hsl u hu
      · exact hs u (List.mem_of_mem_drop hu)
    · have holds : ∀ j u, xs[j]? = some u → w.cell? ((⟨g', 0, none⟩ : Addr).add j) = some u := hown.cells (g := g') rfl
      have hr' := run_append_grow (P := P) w t ty e i (.slice none 0 0) ht hi hz ⟨g', 0, none⟩ n cap' xs (by rw [hsize]; exact hown.1) holds ad m cc news hl1 hnews (by omega) (by omega) (growslice_fits (by omega) hbytes)
      rw [hr'] at hr
      simp only [Result.ok.injEq, Value.slice.injEq, Option.some.injEq, Addr.mk.injEq, and_true, true_and] at hr
      obtain ⟨⟨rfl, -⟩, rfl⟩ := hr
      have := hmake (grownCap w (n + m) cap' e - (n + m)) (xs ++ news) (fun u hu => by
        rcases List.mem_append.1 hu with h | h
        · exact hx u h
        · exact hsl u h)
      rwa [← List.append_toArray] at this

/-- The headers of rows. -/
theorem MatN.heads {W : World} {b off cap : Nat} {yss : List (List Int)} {n : Nat} (h : MatN W (.slice (some ⟨b, off, none⟩) yss.length cap) yss n) (h0 : 0 < yss.length) :
    ∃ qs : List (Value × List Int), qs.map (·.2) = yss ∧ (∀ u, u ∈ qs.map (·.1) → ∃ o l c, u = .slice o l c) ∧ (∀ j u, (qs.map (·.1))[j]? = some u → W.cell? ((⟨b, off, none⟩ : Addr).add j) = some u) ∧ ∀ q ∈ qs, VecN W q.1 q.2 n := by
  obtain ⟨ao, cap', e, -, h2⟩ := h
  simp only [Value.slice.injEq, true_and] at e
  obtain ⟨rfl, rfl⟩ := e
  obtain ⟨b', off', e, hlt, hc⟩ := h2 h0
  simp only [Option.some.injEq, Addr.mk.injEq, and_true] at e
  obtain ⟨rfl, rfl⟩ := e
  have key : ∀ k, k ≤ yss.length → ∃ qs : List (Value × List Int), qs.map (·.2) = yss.take k ∧ (∀ u, u ∈ qs.map (·.1) → ∃ o l c, u = .slice o l c) ∧ (∀ j u, (qs.map (·.1))[j]? = some u → W.cell? ⟨b, off + j, none⟩ = some u) ∧ ∀ q ∈ qs, VecN W q.1 q.2 n := by
    intro k
    induction k with
    | zero => exact fun _ => ⟨[], (by simp), (fun u h => by cases h), (fun j u h => by simp at h), (fun q h => by cases h)⟩
    | succ k ih =>
      intro hk
      obtain ⟨qs, e1, e2, e3, e4⟩ := ih (by omega)
      obtain ⟨u, cu, hu⟩ := hc k yss[k] (by simp)
      have hlen : (qs.map (·.1)).length = k := by
        have := congrArg List.length e1
        rw [List.length_map, List.length_take] at this
        rw [List.length_map]; omega
      refine ⟨qs ++ [(u, yss[k])], by rw [List.map_append, e1, List.take_succ_eq_append_getElem (by omega)]; rfl, fun x hx => ?_, fun j x hx => ?_, fun q hq => ?_⟩
      · rw [List.map_append, List.mem_append] at hx
        rcases hx with hx | hx
        · exact e2 x hx
        · have : x = u := by simpa using hx
          obtain ⟨o, c, eu, -⟩ := hu
          exact ⟨_, _, _, this.trans eu⟩
      · rw [List.map_append] at hx
        by_cases hj : j < k
        · rw [List.getElem?_append_left (by omega)] at hx
          exact e3 j x hx
        · rw [List.getElem?_append_right (by omega), hlen] at hx
          have h0 : j - k = 0 := by
            have := (List.getElem?_eq_some_iff.1 hx).1
            simpa using this
          rw [h0] at hx
          have : x = u := by simpa using hx.symm
          obtain rfl : j = k := by omega
          rw [this]; exact cu
      · rcases List.mem_append.1 hq with h | h
        · exact e4 q h
        · rw [List.mem_singleton] at h
          rw [h]; exact hu
  obtain ⟨qs, e1, e2, e3, e4⟩ := key yss.length (Nat.le_refl _)
  rw [List.take_length] at e1
  refine ⟨qs, e1, e2, fun j u h => ?_, e4⟩
  have ea : (⟨b, off, none⟩ : Addr).add j = ⟨b, off + j, none⟩ := by unfold Addr.add; split <;> simp_all
  rw [ea]
  exact e3 j u h

end Go.Proofs.YtdedolkgcdlmeaaGreatDoor

/- Rows of one's own, that are written one by one. -/
namespace Go.Proofs.YtdedolkgcdlmeaaGreatDoor
open Go.RowKit Limbs

theorem grownBy_set (W : World) (b k : Nat) (v : Value) : W.grownBy (W.setCell ⟨b, k, none⟩ v) (some b) :=
  ⟨rfl, rfl, rfl, by simp, fun g _ hne => Below.heap_setCell W ⟨b, k, none⟩ v g (fun e => hne (by rw [e]))⟩

/-- Rows of vectors in a block of one's own, that holds slices alone; none of them lies in a block from lo on up to up. -/
structure RowsD (w W : World) (rb lo up : Nat) (R : List (List Int)) (N : Nat) : Prop where
  low : w.heap.size ≤ rb
  below : Below w.heap.size w W
  blk : ∃ cs t, W.heap[rb]? = some (.cells cs t) ∧ ∀ u, u ∈ cs.toList → ∃ o l c, u = .slice o l c
  row : ∀ i zs, R[i]? = some zs → ∃ o l c, W.cell? ⟨rb, i, none⟩ = some (.slice o l c) ∧ VecN W (.slice o l c) zs N ∧ ∀ a, o = some a → a.block < lo ∨ up ≤ a.block

section
variable {w W W' : World} {rb lo up N : Nat} {R : List (List Int)}

theorem RowsD.lt (h : RowsD w W rb lo up R N) : rb < W.heap.size := by
  obtain ⟨cs, t, e, -⟩ := h.blk
  exact heap_lt e

theorem RowsD.all (h : RowsD w W rb lo up R N) : AllSl W (some rb) := fun g hg => by
  obtain ⟨cs, t, e, hs⟩ := h.blk
  simp only [Option.some.injEq] at hg
  subst hg
  exact ⟨cs, t, _, e, hs⟩

theorem RowsD.thaw (h : RowsD w W rb lo up R N) (k : Nat) : W.frozen? ⟨rb, k, none⟩ = false := by
  obtain ⟨cs, t, e, -⟩ := h.blk
  simp [World.frozen?, e]

theorem RowsD.later (h : RowsD w W rb lo up R N) (hb : Below W.heap.size W W') : RowsD w W' rb lo up R N where
  low := h.low
  below := h.below.trans (hb.mono h.below.size)
  blk := by obtain ⟨cs, t, e, hs⟩ := h.blk; exact ⟨cs, t, (hb.block _ (heap_lt e)).trans e, hs⟩
  row := fun i zs hi => by
    obtain ⟨o, l, c, h1, h2, h3⟩ := h.row i zs hi
    exact ⟨o, l, c, (hb.cell (p := ⟨rb, i, none⟩) h.lt).trans h1, h2.below hb (Nat.le_refl _), h3⟩

theorem RowsD.mat (h : RowsD w W rb lo up R N) (cap : Nat) (hc : R.length ≤ cap) : MatN W (.slice (some ⟨rb, 0, none⟩) R.length cap) R N :=
  ⟨_, _, rfl, hc, fun _ => ⟨rb, 0, rfl, h.lt, fun i zs hi => by
    obtain ⟨o, l, c, h1, h2, -⟩ := h.row i zs hi
    exact ⟨_, by rw [Nat.zero_add]; exact h1, h2⟩⟩⟩

/-- One row is written. -/
theorem RowsD.set (h : RowsD w W rb lo up R N) {k : Nat} (hk : k < R.length) {o : Option Addr} {l c : Nat} {zs : List Int} (hz : VecN W (.slice o l c) zs N) (hs : ∀ a, o = some a → a.block < lo ∨ up ≤ a.block) : RowsD w (W.setCell ⟨rb, k, none⟩ (.slice o l c)) rb lo up (R.set k zs) N := by
  have hg := grownBy_set W rb k (.slice o l c)
  obtain ⟨o0, l0, c0, hk0, -, -⟩ := h.row k R[k] (List.getElem?_eq_getElem hk)
  refine ⟨h.low, h.below.setCell (p := ⟨rb, k, none⟩) h.low _, ?_, fun i ys hi => ?_⟩
  · obtain ⟨cs, t, e, hsl⟩ := h.blk
    have hlt := heap_lt e
    have e' : W.heap[rb] = .cells cs t := by rw [Array.getElem?_eq_getElem hlt] at e; exact Option.some.inj e
    refine ⟨cs.setIfInBounds k (.slice o l c), t, ?_, fun u hu => ?_⟩
    · show (W.heap.modify rb _)[rb]? = _
      rw [Array.getElem?_eq_getElem (by rw [Array.size_modify]; exact hlt), Array.getElem_modify_self, e']
      rfl
    · rw [Array.toList_setIfInBounds] at hu
      rcases List.mem_or_eq_of_mem_set hu with hu | hu
      · exact hsl u hu
      · exact ⟨o, l, c, hu⟩
  · by_cases e : k = i
    · subst e
      rw [List.getElem?_set_self hk] at hi
      obtain rfl := Option.some.inj hi
      exact ⟨o, l, c, World.cell?_setCell_same (h := hk0) .., hz.grownS hg h.all, hs⟩
    · rw [List.getElem?_set_ne e] at hi
      obtain ⟨o1, l1, c1, h1, h2, h3⟩ := h.row i ys hi
      exact ⟨o1, l1, c1, (World.cell?_setCell_other (h := fun e' => e (by simp only [Addr.mk.injEq, and_true, true_and] at e'; exact e')) ..).trans h1, h2.grownS hg h.all, h3⟩

/-- A variable of a number beside the rows is written. -/
theorem RowsD.setBox (h : RowsD w W rb lo up R N) {B : Nat} {u0 u1 y z : Value} (hB : Box W B u0 u1) (hne : B ≠ rb) (h1 : lo ≤ B) (h2 : B < up) (hw : w.heap.size ≤ B) (n0 : ∀ x, u0 ≠ .int .u32 x) (n1 : ∀ x, u1 ≠ .int .u32 x) : RowsD w ((W.setCell ⟨B, 0, none⟩ y).setCell ⟨B, 1, none⟩ z) rb lo up R N := by
  have c1 : (W.setCell ⟨B, 0, none⟩ y).cell? ⟨B, 1, none⟩ = some u1 := (World.cell?_setCell_other (h := fun e => by simp at e) ..).trans hB.2.1
  refine ⟨h.low, (h.below.setCell (p := ⟨B, 0, none⟩) hw _).setCell (p := ⟨B, 1, none⟩) hw _, ?_, fun i zs hi => ?_⟩
  · obtain ⟨cs, t, e, hs⟩ := h.blk
    exact ⟨cs, t, ((Below.heap_setCell _ ⟨B, 1, none⟩ z rb (Ne.symm hne)).trans (Below.heap_setCell W ⟨B, 0, none⟩ y rb (Ne.symm hne))).trans e, hs⟩
  · obtain ⟨o, l, c, k1, k2, k3⟩ := h.row i zs hi
    refine ⟨o, l, c, ((World.cell?_setCell_other (h := fun e => hne (by simp only [Addr.mk.injEq] at e; exact e.1)) ..).trans (World.cell?_setCell_other (h := fun e => hne (by simp only [Addr.mk.injEq] at e; exact e.1)) ..)).trans k1, ?_, k3⟩
    by_cases hz : 0 < zs.length
    · obtain ⟨b, off, cap, e⟩ := k2.form hz
      simp only [Value.slice.injEq] at e
      obtain ⟨rfl, rfl, rfl⟩ := e
      have k4 := k3 _ rfl
      have hbB : b ≠ B := fun e => by
        have : b < lo ∨ up ≤ b := k4
        omega
      exact (k2.other hbB hB.1 n0).other hbB c1 n1
    · obtain ⟨ao, cap, e, hc, -⟩ := k2
      exact ⟨ao, cap, e, hc, fun h => absurd h hz⟩

end

end Go.Proofs.YtdedolkgcdlmeaaGreatDoor

/- slices.Clone of rows: rows of one's own. -/
namespace Go.Proofs.YtdedolkgcdlmeaaGreatDoor
open Go.RowKit Limbs

/-- Rows that grew are rows of one's own. -/
theorem growV_rows {w W : World} {v : Value} {qs : List (Value × List Int)} {R : List (List Int)} {nv : Nat} (h : GrowV W w.heap.size v qs nv) (hb : Below w.heap.size w W) (e : qs.map (·.2) = R) (h0 : 0 < R.length) {lo up : Nat} (hsep : ∀ q ∈ qs, ∀ a l c, q.1 = .slice (some a) l c → a.block < lo ∨ up ≤ a.block) : ∃ rb cap, v = .slice (some ⟨rb, 0, none⟩) R.length cap ∧ R.length ≤ cap ∧ RowsD w W rb lo up R nv := by
  subst e
  rw [List.length_map] at h0 ⊢
  obtain ⟨hl, h1⟩ := h.own
  rcases h1 with ⟨-, h1⟩ | ⟨g, cap, cur, rfl, hg, hh, hc, -, hcs, ht⟩
  · exact absurd h1 (by omega)
  · refine ⟨g, cap, rfl, hc, hg, hb, ⟨cur, _, hh, ?_⟩, fun i zs hi => ?_⟩
    · obtain ⟨cur', t', fz', hh', hs⟩ := h.all g rfl
      rw [hh] at hh'
      simp only [Option.some.injEq, Obj.cells.injEq] at hh'
      obtain ⟨rfl, -, -⟩ := hh'
      exact hs
    · have hi' : i < qs.length := by
        have := (List.getElem?_eq_some_iff.1 hi).1
        rwa [List.length_map] at this
      have hz : qs[i].2 = zs := by
        rw [List.getElem?_map, List.getElem?_eq_getElem hi'] at hi
        exact Option.some.inj hi
      have hq := h.vec qs[i] (List.getElem_mem hi')
      have hcell : W.cell? ⟨g, i, none⟩ = some qs[i].1 := by
        rw [cell_of_row W g i cur _ _ hh]
        have h5 : (cur.toList.take (qs.length * 1))[i]? = some qs[i].1 := by
          rw [ht, List.getElem?_map, List.getElem?_eq_getElem hi']; rfl
        rw [List.getElem?_take_of_lt (by omega)] at h5
        rw [← Array.getElem?_toList]
        exact h5
      rw [hz] at hq
      have hq' := hq
      obtain ⟨o, c, ev, -, -⟩ := hq
      rw [ev] at hcell hq'
      exact ⟨o, zs.length, c, hcell, hq', fun a ha => hsep qs[i] (List.getElem_mem hi') a _ _ (by rw [ev, ha])⟩

theorem growV_empty (W : World) (base n : Nat) (hb : base ≤ W.heap.size) : GrowV (W.alloc (.cells #[] 72)) base (.slice (some ⟨W.heap.size, 0, none⟩) 0 0) [] n := by
  refine ⟨⟨rfl, .inr ⟨W.heap.size, 0, #[], rfl, hb, heap_alloc_new W _, Nat.le_refl _, by unfold maxLen; omega, rfl, rfl⟩⟩, fun g hg => ?_, fun q h => by cases h⟩
  simp only [Value.ownBlock, Option.some.injEq] at hg
  subst hg
  exact ⟨_, _, _, heap_alloc_new W _, fun u hu => by simp at hu⟩

/-- Rows, whose heads are known, are appended to rows that grow. -/
theorem wpList_append_heads {P : Program} {w : World} {ops : Array Oper} {rest : List Oper} {op : Oper} {a : Act} {Q : Exit → Act → World → Prop} (hgd : op.guard = none) (s x : Operand) (t : TypeId)
    (ho : op.op = .call { callee := .builtin .append, args := #[s, x], argTypes := #[t, t] })
    (base : Nat) (i : TypeInfo) (ht : P.underlying t = some (.slice 72)) (hi : P.info? 72 = some i) (hz : i.zero = some (.slice none 0 0))
    (hsize : i.size = 1) (hby : i.bytes = 24) (v : Value) (qs : List (Value × List Int)) (nv : Nat) (hg : GrowV w base v qs nv) (hs : a.eval s = v)
    (b off yc : Nat) (qs' : List (Value × List Int)) (hx : a.eval x = .slice (some ⟨b, off, none⟩) qs'.length yc) (h0 : 0 < qs'.length) (e2 : ∀ u, u ∈ qs'.map (·.1) → ∃ o l c, u = .slice o l c) (e3 : ∀ j u, (qs'.map (·.1))[j]? = some u → w.cell? ((⟨b, off, none⟩ : Addr).add j) = some u) (e4 : ∀ q ∈ qs', VecN w q.1 q.2 nv) (h1000 : qs.length + qs'.length ≤ 1000000) (hbase : base ≤ w.heap.size)
    (h : ∀ v' w', GrowV w' base v' (qs ++ qs') nv → Below base w w' → wpList P ops Q rest (a.put op.dst v') w') : wpList P ops Q (op :: rest) a w := by
  refine wpList_plain hgd fun K hK => ?_
  have hlen : (qs'.map (·.1)).length = qs'.length := List.length_map ..
  obtain ⟨g, cap, w', hr, k2, k3, k4, k5⟩ := run_append_lies (P := P) w t op.type base 72 i (.slice none 0 0) 1 24 ht hi hz hsize hby rfl (by decide) v qs.length (qs.map (·.1)) hg.own ⟨b, off, none⟩ qs'.length yc (qs'.map (·.1)) (by rw [hlen, Nat.mul_one]) e3 (fun u hu => by obtain ⟨o, l, c, rfl⟩ := e2 u hu; rfl) (by omega) (by unfold maxLen; omega) (by omega) hbase _ rfl
  have hA := run_append_slm w t op.type base 72 i ht hi hz hsize v qs.length (qs.map (·.1)) hg.own hg.all ⟨b, off, none⟩ qs'.length yc (qs'.map (·.1)) hlen (by omega) e2 e3 (by unfold maxLen; omega) (by rw [hby]; omega) g cap w' hr
  have hg' : GrowV w' base (.slice (some ⟨g, 0, none⟩) (qs.length + qs'.length) cap) (qs ++ qs') nv := by
    refine ⟨?_, hA, fun p hp => ?_⟩
    · rw [List.length_append, List.map_append]
      exact k2
    · rcases List.mem_append.1 hp with h' | h'
      · exact (hg.vec p h').grownS k3 hg.all
      · exact (e4 p h').grownS k3 hg.all
  unfold Oper.wp execOp
  simp only [ho, resolve, invoke, builtin, Sem.run_bind, Sem.run_pure, Result.andThen_ok, List.map_toArray, List.map_cons, List.map_nil, hs, hx, hr]
  exact hK _ _ (h _ w' hg' ((Below.refl _ _).grown k3 hbase (fun k hk => (hg.own.lt k hk).1)))

theorem run_mat_eq (w : World) (a : Addr) (l c : Nat) : Sem.run Tryz.prog (binOp .eql 23 (.slice (some a) l c) (.slice none 0 0)) w = .ok (.bool false) w := by kernel_rfl

set_option linter.unusedSimpArgs false in
set_option maxRecDepth 100000 in
set_option maxHeartbeats 3200000 in
theorem clone_any (w : World) (va : Value) (ms : List (List Int)) (nv : Nat) (hv : MatN w va ms nv) (h0 : 0 < ms.length) (hl : ms.length ≤ 1000) (hp : ∀ u ∈ ms, 0 < u.length) :
    Calls Tryz.prog 52 #[va] w fun e w' => ∃ rb cap, e = .returned (.slice (some ⟨rb, 0, none⟩) ms.length cap) ∧ ms.length ≤ cap ∧ ∀ up, RowsD w w' rb w.heap.size up ms nv := by
  obtain ⟨j0, hj, hy0, hy1, hy2⟩ := info_parts Tryz.infoVec
  have HJ := hide hj; have HY0 := hide hy0; have HY1 := hide hy1; have HY2 := hide hy2
  clear hj hy0 hy1 hy2
  have HV := hide hv
  obtain ⟨ao, cap, rfl, -, h2⟩ := hv
  obtain ⟨b, off, rfl, hbl, -⟩ := h2 h0
  clear h2
  obtain ⟨qs', e1, e2, e3, e4⟩ := HV.out.heads h0
  have hql : qs'.length = ms.length := by rw [← e1, List.length_map]
  have hbo := run_mat_eq w ⟨b, off, none⟩ ms.length cap
  have HG := hide (growV_empty w w.heap.size nv (Nat.le_refl _))
  have HB := hide ((Below.refl w.heap.size w).alloc (Nat.le_refl _) (.cells #[] 72))
  have HE2 := hide e2
  have HE3 : Hid (∀ j u, (qs'.map (·.1))[j]? = some u → (w.alloc (.cells #[] 72)).cell? ((⟨b, off, none⟩ : Addr).add j) = some u) := fun j u hju => by
    have ea : (⟨b, off, none⟩ : Addr).add j = ⟨b, off + j, none⟩ := by unfold Addr.add; split <;> simp_all
    have := e3 j u hju
    rw [ea] at this ⊢
    exact (HB.out.cell (p := ⟨b, off + j, none⟩) hbl).trans this
  have HE4 : Hid (∀ q ∈ qs', VecN (w.alloc (.cells #[] 72)) q.1 q.2 nv) := fun q hq => (e4 q hq).below HB.out (Nat.le_refl _)
  have HSP : Hid (∀ up, ∀ q ∈ qs', ∀ a l c, q.1 = .slice (some a) l c → a.block < w.heap.size ∨ up ≤ a.block) := fun up q hq a l c e => .inl (by
    have hp := hp q.2 (by rw [← e1]; exact List.mem_map_of_mem hq)
    obtain ⟨b', off', cap', e'⟩ := (e4 q hq).form hp
    have := (e4 q hq)
    rw [e'] at this e
    simp only [Value.slice.injEq, Option.some.injEq] at e
    obtain ⟨rfl, -, -⟩ := e
    exact (this.at 0 hp).1)
  clear e2 e3 e4
  have HE1 := hide e1; have HQL := hide hql
  rw [← hql] at hbo ⊢
  clear hql e1
  have h0' : 0 < qs'.length := by rw [HQL.out]; exact h0
  have hl' : qs'.length ≤ 1000 := by rw [HQL.out]; exact hl
  go_enter Tryz.func52, Tryz.ntmps52
  go_wp2_with (at_builtin; refine wpList_append_heads rfl _ _ 23 rfl w.heap.size j0 (by kernel_rfl) HJ.out HY0.out HY1.out HY2.out _ [] nv HG.out rfl b off cap qs' rfl h0' HE2.out HE3.out HE4.out (by simp; omega) (by simp) ?_)
  rintro v' w' hg' hb'
  have HP := hide (fun up => growV_rows (R := ms) hg' (HB.out.trans hb') HE1.out h0 (HSP.out up))
  clear hg' hb'
  obtain ⟨rb, cap', hv', hc, -⟩ := HP.out 0
  have HRR : Hid (∀ up, RowsD w w' rb w.heap.size up ms nv) := fun up => by
    obtain ⟨rb2, cap2, e, -, hr⟩ := HP.out up
    rw [hv'] at e
    simp only [Value.slice.injEq, Option.some.injEq, Addr.mk.injEq, and_true, true_and] at e
    rw [e.1]
    exact hr
  subst hv'
  have HC := hide hc
  clear hc HP
  rw [← HQL.out]
  go_wp2
  go_ret
  exact ⟨rb, cap', rfl, by rw [HQL.out]; exact HC.out, HRR.out⟩

end Go.Proofs.YtdedolkgcdlmeaaGreatDoor

/- What holds while mat.Det clears rows. -/
namespace Go.Proofs.YtdedolkgcdlmeaaGreatDoor
open Go.RowKit Limbs

/-- While rows are cleared: T and T + 1 hold the sign and the last pivot. -/
structure DetI (w W : World) (lo rb T n nv k : Nat) (ms : List (List Int)) : Prop where
  base : w.heap.size < lo
  low : lo ≤ T
  rlo : lo ≤ rb
  ne : rb < T
  res : BoxL W w.heap.size (.bool false) (.slice none 0 0)
  ex : ∃ (R : List (List Int)) (t last : Int) (P : Nat → Nat → Int), R.length = n ∧ (∀ u ∈ R, u.length = n) ∧ BarI n k (ent ms) (bp nv) t last (ent R) P ∧ RowsD w W rb lo (T + 2) R (n * nv + 2) ∧ (∃ tn tO tL tC, BoxL W T (.bool tn) (.slice tO tL tC) ∧ NumL W (.agg #[.bool tn, .slice tO tL tC]) t 2) ∧ ∃ ln lO lL lC, BoxL W (T + 1) (.bool ln) (.slice lO lL lC) ∧ NumL W (.agg #[.bool ln, .slice lO lL lC]) last (n * nv + 2)

/-- And a pivot is there. -/
structure DetK (w W : World) (lo rb T n nv k : Nat) (ms : List (List Int)) : Prop where
  base : w.heap.size < lo
  low : lo ≤ T
  rlo : lo ≤ rb
  ne : rb < T
  res : BoxL W w.heap.size (.bool false) (.slice none 0 0)
  ex : ∃ (R : List (List Int)) (t last : Int) (P : Nat → Nat → Int), R.length = n ∧ (∀ u ∈ R, u.length = n) ∧ BarI n k (ent ms) (bp nv) t last (ent R) P ∧ ent R k k ≠ 0 ∧ RowsD w W rb lo (T + 2) R (n * nv + 2) ∧ (∃ tn tO tL tC, BoxL W T (.bool tn) (.slice tO tL tC) ∧ NumL W (.agg #[.bool tn, .slice tO tL tC]) t 2) ∧ ∃ ln lO lL lC, BoxL W (T + 1) (.bool ln) (.slice lO lL lC) ∧ NumL W (.agg #[.bool ln, .slice lO lL lC]) last (n * nv + 2)

theorem ent_swap {R : List (List Int)} {k f : Nat} (hk : k < R.length) (hf : f < R.length) (hkf : k < f) (i j : Nat) : ent ((R.set k R[f]).set f R[k]) i j = swapRows (ent R) k f i j := by
  have key : ((R.set k R[f]).set f R[k]).getD i [] = if i = k then R.getD f [] else if i = f then R.getD k [] else R.getD i [] := by
    rw [List.getD_eq_getElem?_getD (l := (R.set k R[f]).set f R[k])]
    by_cases e1 : i = k
    · subst e1
      rw [if_pos rfl, List.getElem?_set_ne (by omega), List.getElem?_set_self hk, Option.getD_some, getD_row hf]
    · rw [if_neg e1]
      by_cases e2 : i = f
      · subst e2
        rw [if_pos rfl, List.getElem?_set_self (by rw [List.length_set]; exact hf), Option.getD_some, getD_row hk]
      · rw [if_neg e2, List.getElem?_set_ne (Ne.symm e2), List.getElem?_set_ne (Ne.symm e1), ← List.getD_eq_getElem?_getD]
  unfold swapRows ent
  rw [key]
  split
  · rfl
  · split <;> rfl

theorem RowsD.mono {w W : World} {rb lo up N M : Nat} {R : List (List Int)} (h : RowsD w W rb lo up R N) (hm : N ≤ M) : RowsD w W rb lo up R M :=
  ⟨h.low, h.below, h.blk, fun i zs hi => by
    obtain ⟨o, l, c, h1, h2, h3⟩ := h.row i zs hi
    exact ⟨o, l, c, h1, h2.mono hm, h3⟩⟩

theorem RowsD.from {w w0 W : World} {rb lo up N : Nat} {R : List (List Int)} (h : RowsD w0 W rb lo up R N) (hb : Below w.heap.size w w0) : RowsD w W rb lo up R N :=
  ⟨Nat.le_trans hb.size h.low, hb.trans (h.below.mono hb.size), h.blk, fun i zs hi => by
    obtain ⟨o, l, c, h1, h2, h3⟩ := h.row i zs hi
    exact ⟨o, l, c, h1, h2, h3⟩⟩

end Go.Proofs.YtdedolkgcdlmeaaGreatDoor
