/- The reference: one row of its own becomes a vector. -/
import Derived.Test.YtklhmnejmbgmjabGreatDoorRowO
import Derived.Test.YtklhmnejmbgmjabGreatDoorWords
namespace Go.Proofs.YtklhmnejmbgmjabGreatDoor
open Go.RowKit Limbs Digs

theorem Tryz.infoVec : (Tryz.prog.info? 23).map (fun i => (i.zero, i.size, i.bytes)) = some (some (.slice none 0 0), 1, 24) := by kernel_rfl

theorem VecN.grown {W W' : World} {v : Value} {zs : List Int} {n : Nat} (h : VecN W v zs n) (hg : W.grownBy W' none) : VecN W' v zs n := by
  obtain ⟨ao, cap, hv, h1, h2⟩ := h
  refine ⟨ao, cap, hv, h1, fun h0 => ?_⟩
  obtain ⟨b, off, e, hlt, hc⟩ := h2 h0
  refine ⟨b, off, e, Nat.lt_of_lt_of_le hlt hg.size, fun i hi => ?_⟩
  obtain ⟨neg, o, l, c, h3, h4, h5⟩ := hc i hi
  exact ⟨neg, o, l, c, hg.cell h3 (by simp), hg.cell h4 (by simp), NumL.grown (r := ⟨neg, o, l, c⟩) h5 hg (fun _ _ _ _ _ h => by cases h)⟩

set_option maxRecDepth 100000 in
set_option maxHeartbeats 1600000 in
theorem matOf_one (w : World) (v : Value) (zs : List Int) (n : Nat) (hv : MatR w v [zs] n) (hr : zs.length ≤ 1000) :
    Calls Tryz.prog 34 #[v] w fun e w' => ∃ u, e = .returned u ∧ MatN w' u [zs] n ∧ Below w.heap.size w w' := by
  obtain ⟨i0, hi, hz0, hz1, hz2⟩ := info_parts Tryz.infoNum
  obtain ⟨j0, hj, hy0, hy1, hy2⟩ := info_parts Tryz.infoVec
  have HV := hide hv
  obtain ⟨ao, cap, rfl, -, -⟩ := hv
  go_enter Tryz.func34, Tryz.ntmps34
  go_wp2
  go_loopw [3, 4] (fun out i wr => ∃ k : Nat, k ≤ 1 ∧ i = .int .i64 k ∧ (k = 0 → out = .slice none 0 0) ∧ (k = 1 → Hid (MatN wr out [zs] n)) ∧ Below w.heap.size w wr) (fun _ i _ => 1 - (intOf i).toNat)
  case atStart => exact ⟨0, Nat.zero_le _, rfl, fun _ => rfl, fun h => absurd h (by decide), Below.refl _ _⟩
  case round =>
    obtain ⟨k, hk, rfl, h0, h1, hbe⟩ := hrel
    have HBE := hide hbe
    clear hbe
    by_cases hkl : k = 0
    · subst hkl
      obtain rfl := h0 rfl
      clear h0 h1
      rw [show ((0 : Nat) : Int) = 0 from rfl]
      obtain ⟨_, _, e, -, hc⟩ := HV.out.below HBE.out (Nat.le_refl _)
      simp only [Value.slice.injEq, true_and] at e
      obtain ⟨rfl, rfl⟩ := e
      obtain ⟨b, rfl, hblt, hc⟩ := hc (by simp)
      obtain ⟨u, cu, hu⟩ := hc 0 zs rfl
      have HU := hide hu
      clear hc
      obtain ⟨vo, vcap, rfl, -, -⟩ := hu
      go_wp2
      obtain ⟨wo, rfl⟩ : ∃ wo : World, wo = wr := ⟨_, rfl⟩
      go_loopw [5, 6] (fun r i wr => ∃ (q : Nat) (ps : List (Nm × Int)), q ≤ zs.length ∧ i = .int .i64 q ∧ Grow wr wo.heap.size r ps n ∧ Hid (ps.map (·.2) = zs.take q) ∧ Below wo.heap.size wo wr) (fun _ i _ => zs.length - (intOf i).toNat)
      case atStart => exact ⟨0, [], Nat.zero_le _, rfl, Grow.nil _ _ _, by show _ = _; simp, Below.refl _ _⟩
      case round =>
        obtain ⟨q, ps, hq, rfl, hgr, HP, hbi⟩ := hrel
        have HGR := hide hgr; have HBI := hide hbi
        have HPL : Hid (ps.length = q) := by
          have := congrArg List.length HP.out
          rw [List.length_map, List.length_take] at this
          show ps.length = q
          omega
        clear hgr hbi
        have cu2 : wr.cell? ⟨b, 0, none⟩ = some (.slice vo zs.length vcap) := (HBI.out.cell (p := ⟨b, 0, none⟩) hblt).trans cu
        by_cases hql : q < zs.length
        · obtain ⟨ab, _, e, la, rs, ro, rl, rc, a0, a1, na⟩ := (HU.out.below HBI.out (Nat.le_refl _)).at q hql
          simp only [Value.slice.injEq, true_and] at e
          obtain ⟨rfl, rfl⟩ := e
          have NA := hide na
          have HP' : Hid (∀ r : Nm, (ps ++ [(r, zs.getD q 0)]).map (·.2) = zs.take (q + 1)) := fun r => by
            rw [List.map_append, HP.out, List.take_succ_eq_append_getElem hql, List.getD_eq_getElem?_getD, List.getElem?_eq_getElem hql]; rfl
          clear na
          generalize zs.getD q 0 = z at *
          go_wp2_with fail
          refine (intR_new wr _ z n NA.out).mono ?_
          rintro e w3 ⟨⟨r, rfl, hr3, hb3⟩, hnew⟩
          obtain ⟨⟨rn, ro', rl', rc'⟩, rfl⟩ := hr3.nm
          have HAP : Hid (apart u5.ownBlock (Nm.sl ⟨rn, ro', rl', rc'⟩)) := HGR.out.fresh (Nat.le_refl _) (hnew _ _ rfl)
          have HG3 := hide (HGR.out.later hb3)
          have HB3 := hide (HBI.out.trans (hb3.mono HBI.out.size))
          have HR3 : Hid (NumL w3 (Nm.val ⟨rn, ro', rl', rc'⟩) z n) := hr3
          have hown := HG3.out.1
          clear hr3 hb3 hnew HGR HBI a0 a1 cu2 NA
          go_wp2_with (at_builtin; refine wpList_append_lies _ rfl _ _ 23 rfl wo.heap.size 26 i0 (.agg #[.bool false, .slice none 0 0]) 2 32 (by kernel_rfl) hi hz0 hz1 hz2 rfl (by decide) u5 ps.length (ps.flatMap ncells) rfl (hown.alloc _) ⟨w3.heap.size, 0, none⟩ 1 1 [.bool rn, .slice ro' rl' rc'] rfl rfl (World.news_of_block (heap_alloc_new w3 _)) (fun u hu => by simp only [List.mem_cons, List.mem_nil_iff, or_false] at hu; rcases hu with rfl | rfl <;> rfl) (by decide) (by unfold maxLen; have := HPL.out; omega) (by have := HPL.out; omega) (by simp; have := HB3.out.size; omega) (w3.heap.size + 1) (by simp) ?_)
          intro g cap' w5 hown5 hgrow5 hat5 hlt5
          have HN := hide (grow_snoc HG3.out HR3.out HAP.out hown5 hgrow5 hat5)
          have HB5 := hide (HB3.out.trans (grow_below HG3.out HB3.out.size hgrow5))
          have HP5 := hide (HP'.out ⟨rn, ro', rl', rc'⟩)
          clear hown hown5 hgrow5 hat5 hlt5 HG3 HR3 HB3 HP' HP HAP
          go_wp2
          go_roundw
          case rel => exact ⟨q + 1, _, by omega, by go_num, HN.out, HP5, HB5.out⟩
          case measure => simp [intOf]; omega
        · obtain rfl : q = zs.length := by omega
          have HRR : Hid (VecN wr u5 zs n) := by
            have := HGR.out.vec
            rw [HP.out, List.take_length] at this
            exact this
          have HB2 := hide (HBE.out.trans (HBI.out.mono HBE.out.size))
          obtain ⟨so, sl, sc, rfl⟩ : ∃ so sl sc, u5 = .slice so sl sc := by
            obtain ⟨so, sc, e, -⟩ := HRR.out
            exact ⟨_, _, _, e⟩
          clear HGR HP HPL
          go_wp2_with (at_builtin; refine wpList_append_lies _ rfl _ _ 28 rfl w.heap.size 23 j0 (.slice none 0 0) 1 24 (by kernel_rfl) hj hy0 hy1 hy2 rfl (by decide) (.slice none 0 0) 0 [] rfl (World.ownsRow_nil _ _ _ _) ⟨wr.heap.size, 0, none⟩ 1 1 [.slice so sl sc] rfl rfl (World.news_of_block (heap_alloc_new wr _)) (fun u hu => by rw [List.mem_singleton] at hu; rw [hu]; rfl) (by decide) (by unfold maxLen; omega) (by omega) (by simp; have := HB2.out.size; omega) (wr.heap.size + 1) (by simp) ?_)
          intro g cap' w5 hown5 hgrow5 hat5 hlt5
          have HN : Hid (MatN w5 (.slice (some ⟨g, 0, none⟩) (0 + 1) cap') [zs] n) := by
            have hvv : VecN w5 (.slice so sl sc) zs n := (HRR.out.below ((Below.refl _ _).alloc (Nat.le_refl _) _) (Nat.le_refl _)).grown hgrow5
            rcases hown5.2 with ⟨e, -⟩ | ⟨g', cap2, cur, e, hb, hh, hc1, hc2, hc3, hc4⟩
            · cases e
            · simp only [Value.slice.injEq, Option.some.injEq, Addr.mk.injEq, and_true] at e
              obtain ⟨rfl, -, rfl⟩ := e
              refine ⟨_, _, rfl, hc1, fun _ => ⟨g, 0, rfl, hlt5, fun i zs' hi' => ?_⟩⟩
              obtain rfl : i = 0 := by
                have := (List.getElem?_eq_some_iff.1 hi').1
                simpa using this
              simp only [List.getElem?_cons_zero, Option.some.injEq] at hi'
              subst hi'
              refine ⟨.slice so sl sc, ?_, hvv⟩
              have := World.news_of_block hh 0 (.slice so sl sc) (by
                have e : ([.slice so sl sc] : List Value)[0]? = some (.slice so sl sc) := rfl
                have h4 : cur.toList.take 1 = [.slice so sl sc] := by simpa using hc4
                rw [← h4, List.getElem?_take, if_pos (by decide)] at e
                exact e)
              simpa [Addr.add] using this
          have HB5 : Hid (Below w.heap.size w w5) := HB2.out.trans (((Below.refl _ _).alloc HB2.out.size _).grown hgrow5 (by simp; have := HB2.out.size; omega) (fun k hk => by cases hk))
          clear hown5 hgrow5 hat5 hlt5 HRR HB2 cu2
          go_wp2
          go_roundw
          case rel => exact ⟨1, by omega, by go_num, fun h => absurd h (by decide), fun _ => HN, HB5.out⟩
          case measure => simp [intOf]
    · obtain rfl : k = 1 := by omega
      have HF := h1 rfl
      clear h0 h1
      go_wp2
      go_ret
      exact ⟨_, rfl, HF.out, HBE.out⟩

end Go.Proofs.YtklhmnejmbgmjabGreatDoor
