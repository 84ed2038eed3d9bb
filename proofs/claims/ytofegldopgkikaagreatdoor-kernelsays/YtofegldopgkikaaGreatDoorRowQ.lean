/- The reference's rows, from a place on; Behind. -/
import Derived.Test.YtofegldopgkikaaGreatDoorHermR
import Derived.Test.YtofegldopgkikaaGreatDoorKerL
namespace Go.Proofs.YtofegldopgkikaaGreatDoor
open Go.RowKit Limbs Digs

/-- A row of the reference's numbers, from a place on. -/
def RowQ (W : World) (v : Value) (zs : List Int) (n : Nat) : Prop :=
  ∃ ao cap, v = .slice ao zs.length cap ∧ zs.length ≤ cap ∧ (0 < zs.length → ∃ b off cur fz, ao = some ⟨b, off, none⟩ ∧ W.heap[b]? = some (.cells cur 57 fz) ∧
    ∀ i, i < zs.length → ∃ (s : Int) (o : Option Addr) (l c : Nat), W.cell? ⟨b, off + i * 2, none⟩ = some (.int .i64 s) ∧ W.cell? ⟨b, off + i * 2 + 1, none⟩ = some (.slice o l c) ∧ NumR W (.agg #[.int .i64 s, .slice o l c]) (zs.getD i 0) n)

theorem RowQ.below {B : Nat} {W W' : World} {v : Value} {zs : List Int} {n : Nat} (h : RowQ W v zs n) (hb : Below B W W') (hB : W.heap.size ≤ B) : RowQ W' v zs n := by
  obtain ⟨ao, cap, hv, h1, h2⟩ := h
  refine ⟨ao, cap, hv, h1, fun h0 => ?_⟩
  obtain ⟨b, off, cur, fz, e, hh, hc⟩ := h2 h0
  have hlt := heap_lt hh
  refine ⟨b, off, cur, fz, e, (hb.block _ (by omega)).trans hh, fun i hi => ?_⟩
  obtain ⟨s, o, l, c, h3, h4, h5⟩ := hc i hi
  exact ⟨s, o, l, c, (hb.cell (p := ⟨b, off + i * 2, none⟩) (by show b < B; omega)).trans h3, (hb.cell (p := ⟨b, off + i * 2 + 1, none⟩) (by show b < B; omega)).trans h4, h5.below hb hB⟩

theorem RowQ.grown {W W' : World} {row : Option Nat} {v : Value} {zs : List Int} {n : Nat} (h : RowQ W v zs n) (hg : W.grownBy W' row) (hr : Typed W row [3, 57]) : RowQ W' v zs n := by
  obtain ⟨ao, cap, hv, h1, h2⟩ := h
  refine ⟨ao, cap, hv, h1, fun h0 => ?_⟩
  obtain ⟨b, off, cur, fz, e, hh, hc⟩ := h2 h0
  have hr' : Typed W row [3] := fun g hg => by
    obtain ⟨cur', t, fz', h5, h6⟩ := hr g hg
    exact ⟨cur', t, fz', h5, fun h => h6 (by rw [List.mem_singleton] at h; rw [h]; exact List.mem_cons_self)⟩
  have hne : some b ≠ row := fun e => by
    obtain ⟨cur', t, fz', h5, h6⟩ := hr b e.symm
    rw [hh] at h5
    simp only [Option.some.injEq, Obj.cells.injEq] at h5
    exact h6 (by rw [← h5.2.1]; exact List.mem_cons_of_mem _ (List.mem_singleton.2 rfl))
  refine ⟨b, off, cur, fz, e, (hg.block b (heap_lt hh) hne).trans hh, fun i hi => ?_⟩
  obtain ⟨s, o, l, c, h3, h4, h5⟩ := hc i hi
  exact ⟨s, o, l, c, hg.cell h3 hne, hg.cell h4 hne, h5.grown hg hr'⟩

theorem RowQ.at {W : World} {v : Value} {zs : List Int} {n : Nat} (h : RowQ W v zs n) (i : Nat) (hi : i < zs.length) : ∃ b off cap, v = .slice (some ⟨b, off, none⟩) zs.length cap ∧ b < W.heap.size ∧ ∃ (s : Int) (o : Option Addr) (l c : Nat), W.cell? ⟨b, off + i * 2, none⟩ = some (.int .i64 s) ∧ W.cell? ⟨b, off + i * 2 + 1, none⟩ = some (.slice o l c) ∧ NumR W (.agg #[.int .i64 s, .slice o l c]) (zs.getD i 0) n := by
  obtain ⟨ao, cap, rfl, -, h2⟩ := h
  obtain ⟨b, off, cur, fz, rfl, hh, hc⟩ := h2 (by omega)
  exact ⟨b, off, cap, rfl, heap_lt hh, hc i hi⟩

theorem RowQ.fits {w : World} {v : Value} {zs : List Int} {n m : Nat} (h : RowQ w v zs n) (hz : ∀ j, j < zs.length → -dp m < zs.getD j 0 ∧ zs.getD j 0 < dp m) : RowQ w v zs m := by
  obtain ⟨ao, cap, hv, h3, h4⟩ := h
  refine ⟨ao, cap, hv, h3, fun h0 => ?_⟩
  obtain ⟨b, off, cur, fz', e, hh, hc⟩ := h4 h0
  refine ⟨b, off, cur, fz', e, hh, fun i hi => ?_⟩
  obtain ⟨s, o, l, c', h5, h6, h7⟩ := hc i hi
  exact ⟨s, o, l, c', h5, h6, h7.fits (hz i hi).1 (hz i hi).2⟩

/-- Without its first numbers. -/
theorem RowR.dropQ {W : World} {b cap : Nat} {zs : List Int} {n f m : Nat} (h : RowR W (.slice (some ⟨b, 0, none⟩) zs.length cap) zs n) (hf : f + m = zs.length) (hm : 0 < m) : RowQ W (.slice (some ⟨b, f * 2, none⟩) m (cap - f)) (zs.drop f) n := by
  obtain ⟨ao, cap', e, h1, h2⟩ := h
  simp only [Value.slice.injEq, true_and] at e
  obtain ⟨rfl, rfl⟩ := e
  obtain ⟨b', cur, fz, e, hh, hc⟩ := h2 (by omega)
  simp only [Option.some.injEq, Addr.mk.injEq, and_true] at e
  subst e
  have hl : (zs.drop f).length = m := by rw [List.length_drop]; omega
  refine ⟨_, _, by rw [hl], by rw [hl]; omega, fun _ => ⟨b, f * 2, cur, fz, rfl, hh, fun i hi => ?_⟩⟩
  rw [hl] at hi
  obtain ⟨s, o, l, c, h3, h4, h5⟩ := hc (f + i) (by omega)
  exact ⟨s, o, l, c, by rw [show f * 2 + i * 2 = (f + i) * 2 by omega]; exact h3, by rw [show f * 2 + i * 2 + 1 = (f + i) * 2 + 1 by omega]; exact h4, by rw [getD_drop']; exact h5⟩

/-- Rows of such. -/
def MatQ (W : World) (v : Value) (zss : List (List Int)) (n : Nat) : Prop :=
  ∃ ao cap, v = .slice ao zss.length cap ∧ zss.length ≤ cap ∧ (0 < zss.length → ∃ b, ao = some ⟨b, 0, none⟩ ∧ b < W.heap.size ∧ ∀ i zs, zss[i]? = some zs → ∃ u, W.cell? ⟨b, i, none⟩ = some u ∧ RowQ W u zs n)

theorem MatQ.below {B : Nat} {w w' : World} {v : Value} {zss : List (List Int)} {n : Nat} (h : MatQ w v zss n) (hb : Below B w w') (hB : w.heap.size ≤ B) : MatQ w' v zss n := by
  obtain ⟨ao, cap, hv, h1, h2⟩ := h
  refine ⟨ao, cap, hv, h1, fun h0 => ?_⟩
  obtain ⟨b, e, hlt, hc⟩ := h2 h0
  refine ⟨b, e, Nat.lt_of_lt_of_le hlt hb.size, fun i zs hi => ?_⟩
  obtain ⟨u, h3, h4⟩ := hc i zs hi
  exact ⟨u, (hb.cell (p := ⟨b, i, none⟩) (Nat.lt_of_lt_of_le hlt hB)).trans h3, h4.below hb hB⟩

theorem MatQ.fits {w : World} {v : Value} {zss : List (List Int)} {n m : Nat} (h : MatQ w v zss n) (hz : ∀ zs ∈ zss, ∀ j, j < zs.length → -dp m < zs.getD j 0 ∧ zs.getD j 0 < dp m) : MatQ w v zss m := by
  obtain ⟨ao, cap, hv, h3, h4⟩ := h
  refine ⟨ao, cap, hv, h3, fun h0 => ?_⟩
  obtain ⟨b, e, hlt, hc⟩ := h4 h0
  refine ⟨b, e, hlt, fun i zs hi => ?_⟩
  obtain ⟨u, h5, h6⟩ := hc i zs hi
  exact ⟨u, h5, h6.fits (hz zs (List.mem_of_getElem? hi))⟩

/-- Rows that grow. -/
def GrowQ (W : World) (base : Nat) (v : Value) (qs : List (Value × List Int)) (n : Nat) : Prop :=
  W.ownsRow base 54 1 v qs.length (qs.map (·.1)) ∧ ∀ q ∈ qs, RowQ W q.1 q.2 n

theorem GrowQ.later {W W' : World} {base : Nat} {v : Value} {qs : List (Value × List Int)} {n : Nat} (h : GrowQ W base v qs n) (hb : Below W.heap.size W W') : GrowQ W' base v qs n :=
  ⟨ownsRow_later h.1 hb, fun p hp => (h.2 p hp).below hb (Nat.le_refl _)⟩

theorem growQ_snoc {base : Nat} {wr w3 : World} {v : Value} {qs : List (Value × List Int)} {n : Nat} {u : Value} {zs : List Int} {g cap : Nat} {ob : Obj} (h : GrowQ wr base v qs n) (hz : RowQ wr u zs n)
    (hown : w3.ownsRow base 54 1 (.slice (some ⟨g, 0, none⟩) (qs.length + 1) cap) (qs.length + 1) (qs.map (·.1) ++ [u]))
    (hg : (wr.alloc ob).grownBy w3 v.ownBlock) : GrowQ w3 base (.slice (some ⟨g, 0, none⟩) (qs.length + 1) cap) (qs ++ [(u, zs)]) n := by
  have hty : Typed (wr.alloc ob) v.ownBlock [3, 57] := (ownsRow_typed h.1 (by decide)).alloc ob
  refine ⟨by rw [List.length_append, List.length_singleton, List.map_append]; exact hown, fun p hp => ?_⟩
  rcases List.mem_append.1 hp with h' | h'
  · exact ((h.2 p h').below ((Below.refl _ _).alloc (Nat.le_refl _) ob) (Nat.le_refl _)).grown hg hty
  · rw [List.mem_singleton] at h'
    rw [h']
    exact (hz.below ((Below.refl _ _).alloc (Nat.le_refl _) ob) (Nat.le_refl _)).grown hg hty

theorem GrowQ.mat {W : World} {base : Nat} {v : Value} {qs : List (Value × List Int)} {n : Nat} (h : GrowQ W base v qs n) : MatQ W v (qs.map (·.2)) n := by
  obtain ⟨⟨-, h1⟩, h2⟩ := h
  have hlen : (qs.map (·.2)).length = qs.length := List.length_map ..
  rcases h1 with ⟨rfl, hn⟩ | ⟨g, cap, cur, rfl, hb, hh, hc1, hc2, hc3, hc4⟩
  · exact ⟨none, 0, by rw [hlen, hn], by rw [hlen]; omega, fun h0 => absurd h0 (by rw [hlen]; omega)⟩
  · refine ⟨_, cap, by rw [hlen], by rw [hlen]; exact hc1, fun h0 => ⟨g, rfl, heap_lt hh, fun i zs hi => ?_⟩⟩
    obtain ⟨hi', e⟩ := List.getElem?_eq_some_iff.1 hi
    rw [hlen] at hi'
    have e' : zs = qs[i].2 := by rw [← e, List.getElem_map]
    have := World.news_of_block hh i qs[i].1 (by
      have e : (qs.map (·.1))[i]? = some qs[i].1 := by rw [List.getElem?_map, List.getElem?_eq_getElem hi']; rfl
      rw [← hc4, List.getElem?_take, if_pos (by omega)] at e
      exact e)
    have ea : (⟨g, 0, none⟩ : Addr).add i = ⟨g, i, none⟩ := by unfold Addr.add; split <;> simp_all
    rw [ea] at this
    exact ⟨_, this, by rw [e']; exact h2 _ (List.getElem_mem hi')⟩

/-- Nought in the first places? -/
def noughtTo (zs : List Int) (k : Nat) : Bool := decide (∀ j, j < k → zs.getD j 0 = 0)

theorem noughtTo_zero (zs : List Int) : noughtTo zs 0 = true := decide_eq_true fun j hj => absurd hj (Nat.not_lt_zero j)

theorem noughtTo_yes {zs : List Int} {k : Nat} (h : noughtTo zs k = true) (hz : zs.getD k 0 = 0) : noughtTo zs (k + 1) = true := decide_eq_true fun j hj => by
  by_cases e : j = k
  · rw [e]; exact hz
  · exact of_decide_eq_true h j (by omega)

theorem noughtTo_no {zs : List Int} {k : Nat} (hz : zs.getD k 0 ≠ 0) : noughtTo zs (k + 1) = false := decide_eq_false fun h => hz (h k (by omega))

theorem noughtTo_off {zs : List Int} {k : Nat} (h : noughtTo zs k = false) : noughtTo zs (k + 1) = false := decide_eq_false fun h' => of_decide_eq_false h fun j hj => h' j (by omega)

theorem noughtTo_first {f m : Nat} {ts : List (List Int)} {p : Nat → Nat} (F : FormL m ts p) {k : Nat} (hk : k < ts.length) : noughtTo ts[k] f = decide ((f : Int) ≤ first ts[k]) := by
  obtain ⟨h1, h2, h3⟩ := F.first hk
  rw [h1]
  by_cases h : f ≤ p k
  · rw [decide_eq_true (by omega)]
    refine decide_eq_true fun j hj => ?_
    have := F.form.zero k j hk (by omega)
    rwa [getD_row hk] at this
  · rw [decide_eq_false (by omega)]
    refine decide_eq_false fun h' => ?_
    have := h' (p k) (by omega)
    omega

theorem behindL_next (n : Nat) (ts : List (List Int)) (k : Nat) (hk : k < ts.length) : behindL n (ts.take (k + 1)) = behindL n (ts.take k) ++ (if (n : Int) ≤ first ts[k] then [ts[k].drop n] else []) := by
  unfold behindL
  rw [List.take_succ_eq_append_getElem hk, List.filter_append, List.map_append]
  by_cases h : (n : Int) ≤ first ts[k]
  · rw [if_pos h, List.filter_cons_of_pos (by simpa using h)]; rfl
  · rw [if_neg h, List.filter_cons_of_neg (by simpa using h)]; rfl

set_option linter.unusedSimpArgs false in
set_option maxRecDepth 100000 in
set_option maxHeartbeats 1600000 in
theorem behindR_any (w : World) (v : Value) (f n N : Nat) (ts : List (List Int)) {p : Nat → Nat} (hv : MatR w v ts N) (F : FormL (f + n) ts p) (h1 : 1 ≤ n) (h4 : f + n ≤ 100) (hm : ts.length ≤ 100) :
    Calls Tryz.prog 25 #[v, .int .i64 (f : Int)] w fun e w' => ∃ u, e = .returned u ∧ MatQ w' u (behindL f ts) N ∧ Below w.heap.size w w' := by
  obtain ⟨j0, hj, hy0, hy1, hy2⟩ := info_parts Tryz.infoRRow
  have HV := hide hv; have HF := hide F
  obtain ⟨ao, cap, rfl, -, -⟩ := hv
  clear F
  go_enter Tryz.func25, Tryz.ntmps25
  go_wp2
  go_loopw [5, 6] (fun out i wr => ∃ (k : Nat) (qs : List (Value × List Int)), k ≤ ts.length ∧ i = .int .i64 k ∧ Hid (GrowQ wr w.heap.size out qs N) ∧ Hid (qs.map (·.2) = behindL f (ts.take k)) ∧ Hid (qs.length ≤ k) ∧ Hid (Below w.heap.size w wr)) (fun _ i _ => ts.length - (intOf i).toNat)
  case atStart => exact ⟨0, [], Nat.zero_le _, rfl, hide ⟨World.ownsRow_nil _ _ _ _, fun _ h => by cases h⟩, hide (by simp [behindL]), hide (Nat.le_refl _), hide (Below.refl _ _)⟩
  case round =>
    obtain ⟨k, qs, hk, rfl, HGM, HQ, HQL, HBE⟩ := hrel
    by_cases hkl : k < ts.length
    · obtain ⟨_, _, e, -, hc⟩ := HV.out.below HBE.out (Nat.le_refl _)
      simp only [Value.slice.injEq, true_and] at e
      obtain ⟨rfl, rfl⟩ := e
      obtain ⟨b, rfl, hblt, hc⟩ := hc (by omega)
      obtain ⟨u, cu, hu⟩ := hc k ts[k] (by simp [hkl])
      have HU := hide hu
      have hzl : ts[k].length = f + n := HF.out.len _ (List.getElem_mem hkl)
      have HZL := hide hzl
      have HNX := hide (behindL_next f ts k hkl)
      have HNT := hide (noughtTo_first (f := f) HF.out hkl)
      clear hc
      generalize ts[k] = zs at *
      obtain ⟨vo, vcap, rfl, hvc, -⟩ := hu
      rw [hzl] at cu hvc
      have HT0 := hide (noughtTo_zero zs)
      clear hzl
      go_wp2
      obtain ⟨wo, rfl⟩ : ∃ wo : World, wo = wr := ⟨_, rfl⟩
      go_loopw [7, 8] (fun t i wq => ∃ q : Nat, q ≤ f ∧ t = .bool (noughtTo zs q) ∧ i = .int .i64 q ∧ wq = wo) (fun _ i _ => f - (intOf i).toNat)
      case atStart => exact ⟨0, Nat.zero_le _, by rw [HT0.out], rfl, rfl⟩
      case round =>
        obtain ⟨q, hq, rfl, rfl, hwq⟩ := hrel
        subst hwq
        by_cases hql : q < f
        · cases hnt : noughtTo zs q with
          | false =>
            have HN := hide (noughtTo_off hnt)
            clear hnt
            go_wp2
            go_roundw
            case rel => exact ⟨q + 1, by omega, by rw [HN.out], by go_num, by first | rfl | trivial⟩
            case measure => simp [intOf]; omega
          | true =>
            obtain ⟨ab, _, e, la, rs, ro, rl, rc, a0, a1, na⟩ := HU.out.at q (by have := HZL.out; omega)
            simp only [Value.slice.injEq, true_and] at e
            obtain ⟨rfl, rfl⟩ := e
            have hsg := na.sgn0.1
            by_cases hs0 : rs = 0
            · have HN := hide (noughtTo_yes hnt (hsg.1 hs0))
              subst hs0
              clear hnt hsg na
              go_wp2
              go_roundw
              case rel => exact ⟨q + 1, by omega, by rw [HN.out], by go_num, by first | rfl | trivial⟩
              case measure => simp [intOf]; omega
            · have HN := hide (noughtTo_no (zs := zs) (k := q) fun h => hs0 (hsg.2 h))
              have hs1 : (rs == 0) = false := beq_eq_false_iff_ne.2 hs0
              clear hnt hsg na hs0
              go_wp2
              go_roundw
              case rel => exact ⟨q + 1, by omega, by rw [HN.out], by go_num, by first | rfl | trivial⟩
              case measure => simp [intOf]; omega
        · obtain rfl : q = f := by omega
          cases hnt : noughtTo zs q with
          | false =>
            have HQ' : Hid (qs.map (·.2) = behindL q (ts.take (k + 1))) := by
              show _ = _
              rw [HNX.out, HQ.out, if_neg (of_decide_eq_false (HNT.out.symm.trans hnt)), List.append_nil]
            have HQL' : Hid (qs.length ≤ k + 1) := Nat.le_succ_of_le HQL.out
            clear hnt HNT HNX
            go_wp2
            go_roundw
            case rel => exact ⟨k + 1, _, by omega, by go_num, HGM, HQ', HQL', HBE⟩
            case measure => simp [intOf]; omega
          | true =>
            obtain ⟨ab, _, e, la, -⟩ := HU.out.at 0 (by have := HZL.out; omega)
            simp only [Value.slice.injEq, true_and] at e
            obtain ⟨rfl, rfl⟩ := e
            have HD := hide (HU.out.dropQ (f := q) (m := n) HZL.out.symm (by omega))
            have HQ' : Hid ((qs ++ [((.slice (some ⟨ab, q * 2, none⟩) n (vcap - q) : Value), zs.drop q)]).map (·.2) = behindL q (ts.take (k + 1))) := by
              show _ = _
              rw [HNX.out, List.map_append, HQ.out, if_pos (of_decide_eq_true (HNT.out.symm.trans hnt))]; rfl
            have HQL' : Hid ((qs ++ [((.slice (some ⟨ab, q * 2, none⟩) n (vcap - q) : Value), zs.drop q)]).length ≤ k + 1) := by
              show _ ≤ _
              rw [List.length_append, List.length_singleton]; exact Nat.succ_le_succ HQL.out
            have hown := HGM.out.1
            have g2 : ¬ (q : Int) < 0 := by omega
            have hbs := HBE.out.size
            clear hnt HNT HNX
            go_wp2_with (at_builtin; refine wpList_append_lies _ rfl _ _ 35 rfl w.heap.size 54 j0 (.slice none 0 0) 1 24 (by kernel_rfl) hj hy0 hy1 hy2 rfl (by decide) u5 qs.length (qs.map (·.1)) rfl (hown.alloc _) ⟨wr.heap.size, 0, none⟩ 1 1 [.slice (some ⟨ab, q * 2, none⟩) n (vcap - q)] rfl rfl (World.news_of_block (heap_alloc_new wr _)) (fun u hu => by rw [List.mem_singleton] at hu; subst hu; rfl) (by decide) (by unfold maxLen; have := HQL.out; omega) (by have := HQL.out; omega) (by simp; omega) (wr.heap.size + 1) (by simp) ?_)
            intro g cap' w5 hown5 hgrow5 hat5 hlt5
            have HN := hide (growQ_snoc HGM.out HD.out hown5 hgrow5)
            have HB5 := hide (HBE.out.trans (owns_below hown HBE.out.size hgrow5))
            clear hown hown5 hgrow5 hat5 hlt5 HGM HD
            go_wp2
            go_roundw
            case rel => exact ⟨k + 1, _, by omega, by go_num, HN, HQ', HQL', HB5⟩
            case measure => simp [intOf]; omega
    · obtain rfl : k = ts.length := by omega
      have HR : Hid (MatQ wr u5 (behindL f ts) N) := by
        have := HGM.out.mat
        rw [HQ.out, List.take_length] at this
        exact this
      clear HGM HQ
      go_wp2
      go_ret
      exact ⟨_, rfl, HR.out, HBE.out⟩

end Go.Proofs.YtofegldopgkikaaGreatDoor
