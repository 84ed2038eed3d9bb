/- The reference's Kernel. -/
import Derived.Test.YtofegldopgkikaaGreatDoorRowQ
import Derived.Test.YtofegldopgkikaaGreatDoorMatRaw
import Derived.Test.YtofegldopgkikaaGreatDoorHermS0
import Derived.Test.YtofegldopgkikaaGreatDoorKerW

namespace Go.Proofs.YtofegldopgkikaaGreatDoor
open Go.RowKit Limbs Digs

theorem unit_take (n j k : Nat) (hk : k < n) : (unitL n j).take (k + 1) = (unitL n j).take k ++ [if k = j then (1 : Int) else 0] := by
  rw [List.take_succ_eq_append_getElem (by rw [unitL_len]; exact hk)]
  congr 2
  simp [unitL]

theorem traced_take (ms : List (List Int)) (n j : Nat) (hj : j < n) : (tracedL ms n).take (j + 1) = (tracedL ms n).take j ++ [(ms.map fun r => r.getD j 0) ++ unitL n j] := by
  rw [List.take_succ_eq_append_getElem (by rw [tracedL_length]; exact hj)]
  congr 2
  simp [tracedL]

def KerRPost (w : World) (n a0 : Nat) (ms : List (List Int)) (e : Ending) (w' : World) : Prop :=
  ∃ u ts p, e = .returned u ∧ MatQ w' u (behindL ms.length ts) (eB (dT a0 (n + min n (ms.length + n)) + 7) (ms.length + n)) ∧ FormL (ms.length + n) ts p ∧ Alikes (ms.length + n) (InL ts) (InL (tracedL ms n)) ∧ Below w.heap.size w w'

set_option linter.unusedSimpArgs false in
set_option maxRecDepth 100000 in
set_option maxHeartbeats 3200000 in
theorem kernelR_any (w : World) (v : Value) (ms : List (List Int)) (n a0 : Nat) (hv : MatR w v ms a0) (hr : ∀ us ∈ ms, us.length = n) (hn1 : 1 ≤ n) (hn : n ≤ 8) (hm : ms.length ≤ 12) (ha : 5 ≤ a0) (hB : dT a0 (n + min n (ms.length + n) + 1) ≤ 1000000000) :
    Calls Tryz.prog 11 #[v, .int .i64 (n : Int)] w fun e w' => KerRPost w n a0 ms e w' := by
  obtain ⟨i0, hi, hz0, hz1, hz2⟩ := info_parts Tryz.infoRNum
  obtain ⟨j0, hj, hy0, hy1, hy2⟩ := info_parts Tryz.infoRRow
  have HV := hide hv; have HR := hide hr; have HDB := hide hB
  obtain ⟨ao, cap, rfl, -, -⟩ := hv
  clear hr hB
  go_enter Tryz.func11, Tryz.ntmps11
  go_wp2
  go_loopw [5, 6] (fun out i wr => ∃ (k : Nat) (qs : List (Value × List Int)), k ≤ n ∧ i = .int .i64 k ∧ Hid (GrowM wr w.heap.size out qs a0) ∧ Hid (qs.map (·.2) = (tracedL ms n).take k) ∧ Hid (Below w.heap.size w wr)) (fun _ i _ => n - (intOf i).toNat)
  case atStart => exact ⟨0, [], Nat.zero_le _, rfl, hide ⟨World.ownsRow_nil _ _ _ _, fun _ h => by cases h⟩, hide (by simp), hide (Below.refl _ _)⟩
  case round =>
    obtain ⟨k, qs, hk, rfl, HGM, HQ, HBE⟩ := hrel
    have HQL : Hid (qs.length = k) := by
      have := congrArg List.length HQ.out
      rw [List.length_map, List.length_take, tracedL_length] at this
      show qs.length = k
      omega
    by_cases hkl : k < n
    · have HTT := hide (traced_take ms n k hkl)
      go_wp2
      obtain ⟨wo, rfl⟩ : ∃ wo : World, wo = wr := ⟨_, rfl⟩
      go_loopw [7, 8] (fun r i wr => ∃ (q : Nat) (ps : List (Rn × Int)), q ≤ ms.length ∧ i = .int .i64 q ∧ Hid (GrowR wr wo.heap.size r ps a0) ∧ Hid (ps.map (·.2) = (ms.take q).map fun r => r.getD k 0) ∧ Hid (Below wo.heap.size wo wr)) (fun _ i _ => ms.length - (intOf i).toNat)
      case atStart => exact ⟨0, [], Nat.zero_le _, rfl, hide (GrowR.nil _ _ _), hide (by simp), hide (Below.refl _ _)⟩
      case round =>
        obtain ⟨q, ps, hq, rfl, HGR, HP, HBI⟩ := hrel
        have HPL : Hid (ps.length = q) := by
          have := congrArg List.length HP.out
          rw [List.length_map, List.length_map, List.length_take] at this
          show ps.length = q
          omega
        by_cases hql : q < ms.length
        · obtain ⟨_, _, e, -, hc⟩ := HV.out
          simp only [Value.slice.injEq, true_and] at e
          obtain ⟨rfl, rfl⟩ := e
          obtain ⟨mb, rfl, hmlt, hc⟩ := hc (by omega)
          obtain ⟨u, cu0, hu⟩ := hc q ms[q] (by simp [hql])
          clear hc
          have hbw : Below w.heap.size w wr := HBE.out.trans (HBI.out.mono HBE.out.size)
          have cu := (hbw.cell (p := ⟨mb, q, none⟩) hmlt).trans cu0
          have hul := HR.out _ (List.getElem_mem hql)
          have HP' : Hid (∀ r : Rn, (ps ++ [(r, ms[q].getD k 0)]).map (·.2) = (ms.take (q + 1)).map fun r => r.getD k 0) := fun r => by
            rw [List.map_append, HP.out, List.take_succ_eq_append_getElem hql, List.map_append]; rfl
          have hu2 := hu.below hbw (Nat.le_refl _)
          clear hu cu0
          generalize ms[q] = zs at *
          obtain ⟨ab, acap, e, la, rs, ro, rl, rc, a0', a1', na⟩ := hu2.at k (by omega)
          subst e
          rw [hul] at cu
          have NA : Hid (NumR wr (Rn.val ⟨rs, ro, rl, rc⟩) (zs.getD k 0) a0) := na
          have hown := HGR.out.1
          have hbs := HBI.out.size
          clear na hu2 hbw
          generalize zs.getD k 0 = z at *
          go_wp2_with (at_builtin; refine wpList_append_lies _ rfl _ _ 54 rfl wo.heap.size 57 i0 (.agg #[.int .i64 0, .slice none 0 0]) 2 32 (by kernel_rfl) hi hz0 hz1 hz2 rfl (by decide) u7 ps.length (ps.flatMap rcells) rfl (hown.alloc _) ⟨wr.heap.size, 0, none⟩ 1 1 [.int .i64 rs, .slice ro rl rc] rfl rfl (World.news_of_block (heap_alloc_new wr _)) (fun u hu => by simp only [List.mem_cons, List.mem_nil_iff, or_false] at hu; rcases hu with rfl | rfl <;> rfl) (by decide) (by unfold maxLen; have := HPL.out; omega) (by have := HPL.out; omega) (by simp; omega) (wr.heap.size + 1) (by simp) ?_)
          intro g cap' w5 hown5 hgrow5 hat5 hlt5
          have HN := hide (growR_snoc HGR.out NA.out hown5 hgrow5)
          have HB5 := hide (HBI.out.trans (owns_below hown HBI.out.size hgrow5))
          have HP5 := hide (HP'.out ⟨rs, ro, rl, rc⟩)
          clear hown hown5 hgrow5 hat5 hlt5 HGR NA HBI HP' HP cu a0' a1'
          go_wp2
          go_roundw
          case rel => exact ⟨q + 1, _, by omega, by go_num, HN, HP5, HB5⟩
          case measure => simp [intOf]; omega
        · obtain rfl : q = ms.length := by omega
          rw [List.take_length] at HP
          have HP0 : Hid (ps.map (·.2) = (ms.map fun r => r.getD k 0) ++ (unitL n k).take 0) := by
            show _ = _
            rw [HP.out, List.take_zero, List.append_nil]
          clear HP HPL
          go_wp2
          go_loopw [7, 9] (fun r i wr => ∃ (q : Nat) (ps : List (Rn × Int)), q ≤ n ∧ i = .int .i64 q ∧ Hid (GrowR wr wo.heap.size r ps a0) ∧ Hid (ps.map (·.2) = (ms.map fun r => r.getD k 0) ++ (unitL n k).take q) ∧ Hid (Below wo.heap.size wo wr)) (fun _ i _ => n - (intOf i).toNat)
          case atStart => exact ⟨0, ps, Nat.zero_le _, rfl, HGR, HP0, HBI⟩
          case round =>
            clear HGR HP0 HBI ps
            obtain ⟨q, ps, hq, rfl, HGR, HP, HBI⟩ := hrel
            have HPL : Hid (ps.length = ms.length + q) := by
              have := congrArg List.length HP.out
              rw [List.length_map, List.length_append, List.length_map, List.length_take, unitL_len] at this
              show ps.length = ms.length + q
              omega
            by_cases hql : q < n
            · have HP' : Hid (∀ (r : Rn) (z : Int), z = (if q = k then 1 else 0) → (ps ++ [(r, z)]).map (·.2) = (ms.map fun r => r.getD k 0) ++ (unitL n k).take (q + 1)) := fun r z hz => by
                rw [List.map_append, HP.out, unit_take n k q hql, ← hz, List.append_assoc]; rfl
              by_cases hqk : q = k
              · have HP2 := hide (fun r => HP'.out r 1 (by rw [if_pos hqk]))
                subst hqk
                clear HP' HP
                go_wp2_with fail
                refine (n_any wr 1 (by decide) (by decide)).mono ?_
                rintro e w3 ⟨r, rfl, hr3, hb3⟩
                obtain ⟨rs, ro, rl, rc, rfl, -⟩ := hr3.form
                have NA : Hid (NumR w3 (Rn.val ⟨rs, ro, rl, rc⟩) 1 a0) := hr3.mono ha
                have HG3 := hide (HGR.out.later hb3)
                have HB3 := hide (HBI.out.trans (hb3.mono HBI.out.size))
                have hown := HG3.out.1
                have hbs := HB3.out.size
                clear hr3 hb3 HGR HBI
                go_wp2_with (at_builtin; refine wpList_append_lies _ rfl _ _ 54 rfl wo.heap.size 57 i0 (.agg #[.int .i64 0, .slice none 0 0]) 2 32 (by kernel_rfl) hi hz0 hz1 hz2 rfl (by decide) u7 ps.length (ps.flatMap rcells) rfl (hown.alloc _) ⟨w3.heap.size, 0, none⟩ 1 1 [.int .i64 rs, .slice ro rl rc] rfl rfl (World.news_of_block (heap_alloc_new w3 _)) (fun u hu => by simp only [List.mem_cons, List.mem_nil_iff, or_false] at hu; rcases hu with rfl | rfl <;> rfl) (by decide) (by unfold maxLen; have := HPL.out; omega) (by have := HPL.out; omega) (by simp; omega) (w3.heap.size + 1) (by simp) ?_)
                intro g cap' w5 hown5 hgrow5 hat5 hlt5
                have HN := hide (growR_snoc HG3.out NA.out hown5 hgrow5)
                have HB5 := hide (HB3.out.trans (owns_below hown HB3.out.size hgrow5))
                have HP5 := hide (HP2.out ⟨rs, ro, rl, rc⟩)
                clear hown hown5 hgrow5 hat5 hlt5 HG3 NA HB3 HP2
                go_wp2
                go_roundw
                case rel => exact ⟨q + 1, _, by omega, by go_num, HN, HP5, HB5⟩
                case measure => simp [intOf]; omega
              · have hqk' : ((q : Int) == (k : Int)) = false := beq_eq_false_iff_ne.2 (by omega)
                have HP2 := hide (HP'.out ⟨0, none, 0, 0⟩ 0 (by rw [if_neg hqk]))
                have NA : Hid (NumR wr (Rn.val ⟨0, none, 0, 0⟩) 0 a0) := NumR.nought wr a0
                have hown := HGR.out.1
                have hbs := HBI.out.size
                clear HP' HP
                go_wp2_with (at_builtin; refine wpList_append_lies _ rfl _ _ 54 rfl wo.heap.size 57 i0 (.agg #[.int .i64 0, .slice none 0 0]) 2 32 (by kernel_rfl) hi hz0 hz1 hz2 rfl (by decide) u7 ps.length (ps.flatMap rcells) rfl (hown.alloc _) ⟨wr.heap.size, 0, none⟩ 1 1 [.int .i64 0, .slice none 0 0] rfl rfl (World.news_of_block (heap_alloc_new wr _)) (fun u hu => by simp only [List.mem_cons, List.mem_nil_iff, or_false] at hu; rcases hu with rfl | rfl <;> rfl) (by decide) (by unfold maxLen; have := HPL.out; omega) (by have := HPL.out; omega) (by simp; omega) (wr.heap.size + 1) (by simp) ?_)
                intro g cap' w5 hown5 hgrow5 hat5 hlt5
                have HN := hide (growR_snoc HGR.out NA.out hown5 hgrow5)
                have HB5 := hide (HBI.out.trans (owns_below hown HBI.out.size hgrow5))
                clear hown hown5 hgrow5 hat5 hlt5 HGR NA HBI
                go_wp2
                go_roundw
                case rel => exact ⟨q + 1, _, by omega, by go_num, HN, HP2, HB5⟩
                case measure => simp [intOf]; omega
            · obtain rfl : q = n := by omega
              have HRR : Hid (RowR wr u7 ((ms.map fun r => r.getD k 0) ++ unitL q k) a0) := by
                have := HGR.out.row
                rw [HP.out, List.take_of_length_le (by rw [unitL_len]; exact Nat.le_refl _)] at this
                exact this
              have HG2 := hide (HGM.out.later HBI.out)
              have HB2 := hide (HBE.out.trans (HBI.out.mono HBE.out.size))
              have HQ' : Hid (∀ r : Value, (qs ++ [(r, (ms.map fun r => r.getD k 0) ++ unitL q k)]).map (·.2) = (tracedL ms q).take (k + 1)) := fun r => by
                rw [List.map_append, HQ.out, HTT.out]; rfl
              obtain ⟨so, sl, sc, rfl⟩ : ∃ so sl sc, u7 = .slice so sl sc := by
                obtain ⟨so, sc, e, -⟩ := HRR.out
                exact ⟨_, _, _, e⟩
              have hown := HG2.out.1
              have hbs := HB2.out.size
              clear HGR HP HPL
              go_wp2_with (at_builtin; refine wpList_append_lies _ rfl _ _ 35 rfl w.heap.size 54 j0 (.slice none 0 0) 1 24 (by kernel_rfl) hj hy0 hy1 hy2 rfl (by decide) u5 qs.length (qs.map (·.1)) rfl (hown.alloc _) ⟨wr.heap.size, 0, none⟩ 1 1 [.slice so sl sc] rfl rfl (World.news_of_block (heap_alloc_new wr _)) (fun u hu => by rw [List.mem_singleton] at hu; subst hu; rfl) (by decide) (by unfold maxLen; have := HQL.out; omega) (by have := HQL.out; omega) (by simp; omega) (wr.heap.size + 1) (by simp) ?_)
              intro g cap' w5 hown5 hgrow5 hat5 hlt5
              have HN := hide (growM_snoc HG2.out HRR.out hown5 hgrow5)
              have HB5 := hide (HB2.out.trans (owns_below hown HB2.out.size hgrow5))
              have HQ5 := hide (HQ'.out (.slice so sl sc))
              clear hown hown5 hgrow5 hat5 hlt5 HG2 HRR HB2 HQ' HQ
              go_wp2
              go_roundw
              case rel => exact ⟨k + 1, _, by omega, by go_num, HN, HQ5, HB5⟩
              case measure => simp [intOf]; omega
    · obtain rfl : k = n := by omega
      have HW : Hid (MatR wr u5 (tracedL ms k) a0) := by
        have := HGM.out.mat
        rw [HQ.out, List.take_of_length_le (by rw [tracedL_length]; exact Nat.le_refl _)] at this
        exact this
      clear HGM HQ
      obtain ⟨uo, ul, uc, rfl⟩ : ∃ uo ul uc, u5 = .slice uo ul uc := by
        obtain ⟨so, sc, e, -⟩ := HW.out
        exact ⟨_, _, _, e⟩
      go_wp2_with fail
      rw [show ((ms.length : Int) + (k : Int)) = ((ms.length + k : Nat) : Int) by omega]
      refine (hermiteR_min wr _ (tracedL ms k) (ms.length + k) a0 HW.out (tracedL_len ms k) (by omega) (by omega) (by rw [tracedL_length]; omega) (by rw [tracedL_length]; exact HDB.out)).mono ?_
      rintro e w6 ⟨u6, fs, p6, rfl, g1, g2, g3, g4, g5⟩
      rw [tracedL_length] at g1
      have HG1 := hide g1; have HF := hide g3; have HA := hide g4
      have HB6 := hide (HBE.out.trans (g5.mono HBE.out.size))
      have hfl : fs.length ≤ 100 := by omega
      clear g1 g2 g3 g4 g5 HW
      go_wp2_with fail
      refine (behindR_any w6 _ ms.length k _ fs HG1.out HF.out hn1 (by omega) hfl).mono ?_
      rintro e w7 ⟨u7', rfl, k1, k2⟩
      have HP := hide (show KerRPost w k a0 ms (.returned u7') w7 from ⟨_, fs, p6, rfl, k1, HF.out, HA.out, HB6.out.trans (k2.mono HB6.out.size)⟩)
      clear k1 k2 HB6 HG1 HF HA
      go_wp2
      go_ret
      exact HP.out

end Go.Proofs.YtofegldopgkikaaGreatDoor

/- The reference: rows from a place on become rows of vectors. -/
namespace Go.Proofs.YtofegldopgkikaaGreatDoor
open Go.RowKit Limbs Digs

set_option maxRecDepth 100000 in
set_option maxHeartbeats 1600000 in
theorem matOfQ_any (w : World) (v : Value) (zss : List (List Int)) (n : Nat) (hv : MatQ w v zss n) (hl : zss.length ≤ 1000) (hr : ∀ zs ∈ zss, zs.length ≤ 1000) (hn6 : n ≤ 1000000) :
    Calls Tryz.prog 10 #[v] w fun e w' => ∃ u, e = .returned u ∧ MatN w' u zss n ∧ Below w.heap.size w w' := by
  obtain ⟨i0, hi, hz0, hz1, hz2⟩ := info_parts Tryz.infoNum
  obtain ⟨j0, hj, hy0, hy1, hy2⟩ := info_parts Tryz.infoVec
  have HV := hide hv; have HR := hide hr
  clear hr
  obtain ⟨ao, cap, rfl, -, -⟩ := hv
  go_enter Tryz.func10, Tryz.ntmps10
  go_wp2
  go_loopw [3, 4] (fun out i wr => ∃ (k : Nat) (qs : List (Value × List Int)), k ≤ zss.length ∧ i = .int .i64 k ∧ Hid (GrowV wr w.heap.size out qs n) ∧ Hid (qs.map (·.2) = zss.take k) ∧ Hid (Below w.heap.size w wr)) (fun _ i _ => zss.length - (intOf i).toNat)
  case atStart => exact ⟨0, [], Nat.zero_le _, rfl, hide (GrowV.nil _ _ _), hide (by simp), hide (Below.refl _ _)⟩
  case round =>
    obtain ⟨k, qs, hk, rfl, HGV, HQ, HBE⟩ := hrel
    have HQL : Hid (qs.length = k) := by
      have := congrArg List.length HQ.out
      rw [List.length_map, List.length_take] at this
      show qs.length = k
      omega
    by_cases hkl : k < zss.length
    · obtain ⟨_, _, e, -, hc⟩ := HV.out.below HBE.out (Nat.le_refl _)
      simp only [Value.slice.injEq, true_and] at e
      obtain ⟨rfl, rfl⟩ := e
      obtain ⟨b, rfl, hblt, hc⟩ := hc (by omega)
      obtain ⟨u, cu, hu⟩ := hc k zss[k] (by simp [hkl])
      have HU := hide hu
      have hzl := HR.out _ (List.getElem_mem hkl)
      have HQ' : Hid (∀ r : Value, (qs ++ [(r, zss[k])]).map (·.2) = zss.take (k + 1)) := fun r => by
        rw [List.map_append, HQ.out, List.take_succ_eq_append_getElem hkl]; rfl
      clear hc
      generalize zss[k] = zs at *
      obtain ⟨vo, vcap, rfl, -, -⟩ := hu
      go_wp2
      obtain ⟨wo, rfl⟩ : ∃ wo : World, wo = wr := ⟨_, rfl⟩
      go_loopw [5, 6] (fun r i wr => ∃ (q : Nat) (ps : List (Nm × Int)), q ≤ zs.length ∧ i = .int .i64 q ∧ Grow wr wo.heap.size r ps n ∧ Hid (ps.map (·.2) = zs.take q) ∧ Below wo.heap.size wo wr) (fun _ i _ => zs.length - (intOf i).toNat)
      case atStart => exact ⟨0, [], Nat.zero_le _, rfl, Grow.nil _ _ _, by show _ = _; simp, Below.refl _ _⟩
      case round =>
        obtain ⟨q, ps, hq, rfl, hgr, HP, hbi⟩ := hrel
        have HGR := hide hgr; have HBI := hide hbi
        have HPL : Hid (ps.length = q) := by
          have := congrArg List.length HP.out
          rw [List.length_map, List.length_take] at this
          show ps.length = q
          omega
        clear hgr hbi
        have cu2 : wr.cell? ⟨b, k, none⟩ = some (.slice vo zs.length vcap) := (HBI.out.cell (p := ⟨b, k, none⟩) hblt).trans cu
        by_cases hql : q < zs.length
        · obtain ⟨ab, aoff, _, e, la, rs, ro, rl, rc, a0, a1, na⟩ := (HU.out.below HBI.out (Nat.le_refl _)).at q hql
          simp only [Value.slice.injEq, true_and] at e
          obtain ⟨rfl, rfl⟩ := e
          have NA := hide na
          have HP' : Hid (∀ r : Nm, (ps ++ [(r, zs.getD q 0)]).map (·.2) = zs.take (q + 1)) := fun r => by
            rw [List.map_append, HP.out, List.take_succ_eq_append_getElem hql, List.getD_eq_getElem?_getD, List.getElem?_eq_getElem hql]; rfl
          clear na
          generalize zs.getD q 0 = z at *
          go_wp2_with fail
          refine (intR_new wr _ z n NA.out hn6).mono ?_
          rintro e w3 ⟨⟨r, rfl, hr3, hb3⟩, hnew⟩
          obtain ⟨⟨rn, ro', rl', rc'⟩, rfl⟩ := hr3.nm
          have HAP : Hid (apart u5.ownBlock (Nm.sl ⟨rn, ro', rl', rc'⟩)) := HGR.out.fresh (Nat.le_refl _) (hnew _ _ rfl)
          have HG3 := hide (HGR.out.later hb3)
          have HB3 := hide (HBI.out.trans (hb3.mono HBI.out.size))
          have HR3 : Hid (NumL w3 (Nm.val ⟨rn, ro', rl', rc'⟩) z n) := hr3
          have hown := HG3.out.1
          clear hr3 hb3 hnew HGR HBI a0 a1 cu2 NA
          go_wp2_with (at_builtin; refine wpList_append_lies _ rfl _ _ 39 rfl wo.heap.size 46 i0 (.agg #[.bool false, .slice none 0 0]) 2 32 (by kernel_rfl) hi hz0 hz1 hz2 rfl (by decide) u5 ps.length (ps.flatMap ncells) rfl (hown.alloc _) ⟨w3.heap.size, 0, none⟩ 1 1 [.bool rn, .slice ro' rl' rc'] rfl rfl (World.news_of_block (heap_alloc_new w3 _)) (fun u hu => by simp only [List.mem_cons, List.mem_nil_iff, or_false] at hu; rcases hu with rfl | rfl <;> rfl) (by decide) (by unfold maxLen; have := HPL.out; omega) (by have := HPL.out; omega) (by simp; have := HB3.out.size; omega) (w3.heap.size + 1) (by simp) ?_)
          intro g cap' w5 hown5 hgrow5 hat5 hlt5
          have HN := hide (grow_snoc HG3.out HR3.out HAP.out hown5 hgrow5 hat5)
          have HB5 := hide (HB3.out.trans (grow_below HG3.out HB3.out.size hgrow5))
          have HP5 := hide (HP'.out ⟨rn, ro', rl', rc'⟩)
          clear hown hown5 hgrow5 hat5 hlt5 HG3 HR3 HB3 HP' HP HAP
          go_wp2
          go_roundw
          case rel => exact ⟨q + 1, _, by omega, by go_num, HN.out, HP5, HB5.out⟩
          case measure => simp [intOf]; omega
        · obtain rfl : q = zs.length := by omega
          have HRR : Hid (VecN wr u5 zs n) := by
            have := HGR.out.vec
            rw [HP.out, List.take_length] at this
            exact this
          have HG3 := hide (HGV.out.later HBI.out)
          have HB3 := hide (HBE.out.trans (HBI.out.mono HBE.out.size))
          obtain ⟨so, sl, sc, rfl⟩ : ∃ so sl sc, u5 = .slice so sl sc := by
            obtain ⟨so, sc, e, -⟩ := HRR.out
            exact ⟨_, _, _, e⟩
          have hown := HG3.out.own
          have hall := HG3.out.all.later ((Below.refl _ _).alloc (Nat.le_refl _) (.cells #[.slice so sl sc] 39))
          have hbs := HB3.out.size
          clear HGR HP HPL
          go_wp2_with (at_builtin; refine wpList_append_sl rfl _ _ 23 rfl w.heap.size 39 j0 24 (by kernel_rfl) hj hy0 hy1 hy2 u3 qs.length (qs.map (·.1)) rfl (hown.alloc _) hall ⟨wr.heap.size, 0, none⟩ 1 so sl sc rfl (World.news_of_block (heap_alloc_new wr _)) (by unfold maxLen; have := HQL.out; omega) (by have := HQL.out; omega) (by simp; omega) ?_)
          intro g cap' w5 hown5 hgrow5 hall5
          have HG5 := hide (growV_snoc (HG3.out.later ((Below.refl _ _).alloc (Nat.le_refl _) _)) (HRR.out.below ((Below.refl _ _).alloc (Nat.le_refl _) _) (Nat.le_refl _)) hown5 hgrow5 hall5)
          have HB5 := hide ((HB3.out.alloc HB3.out.size _).trans (grownV_below (HG3.out.later ((Below.refl _ _).alloc (Nat.le_refl _) _)) (by simp; omega) hgrow5))
          have HQ5 := hide (HQ'.out (.slice so sl sc))
          clear hown hall hown5 hgrow5 hall5 HG3 HRR HB3 HQ' cu2
          go_wp2
          go_roundw
          case rel => exact ⟨k + 1, _, by omega, by go_num, HG5, HQ5, HB5⟩
          case measure => simp [intOf]; omega
    · obtain rfl : k = zss.length := by omega
      have HF : Hid (MatN wr u3 zss n) := by
        have := HGV.out.mat
        rw [HQ.out, List.take_length] at this
        exact this
      clear HGV HQ
      go_wp2
      go_ret
      exact ⟨_, rfl, HF.out, HBE.out⟩

end Go.Proofs.YtofegldopgkikaaGreatDoor

/- KernelSays, walked: what rows make nought of is what the document's words say. -/
namespace Go.Proofs.YtofegldopgkikaaGreatDoor
open Go.RowKit Limbs Digs

set_option maxRecDepth 100000 in
theorem kernel_bad (w : World) (v : Value) (rss : List (List Raw)) (n c : Int) (hv : MatL w v rss) (hc : checkedM rss n = .iface 50 (.int .i64 c)) :
    Calls Tryz.prog 7 #[v, .int .i64 n] w fun e w' => e = .returned (.tuple #[.slice none 0 0, .iface 50 (.int .i64 c)]) ∧ Below w.heap.size w w' := by
  have HC := hide (checkM_any w v rss n hv)
  rw [hc] at HC
  obtain ⟨ao, cap, rfl, -, -⟩ := hv
  clear hc
  go_enter Tryz.func7, Tryz.ntmps7
  go_wp2_with fail
  refine HC.out.mono ?_
  rintro e w1 ⟨rfl, hb1⟩
  have HB1 := hide hb1
  clear hb1 HC
  go_wp2
  go_ret2
  exact ⟨rfl, HB1.out⟩

set_option linter.unusedSimpArgs false in
set_option maxRecDepth 100000 in
set_option maxHeartbeats 3200000 in
theorem kernelSays_any (w : World) (ht : Tab w) (vm : Value) (nI : Int) {rss : List (List Raw)} (hC : MatC w vm rss) :
    Calls Tryz.prog 3 #[vm, .int .i64 nI] w fun e w' => e = .returned (.bool true) ∧ Below w.heap.size w w' := by
  have HT := hide ht; have HC := hide hC
  obtain ⟨mo, mcap, rfl, -, -, -⟩ := hC
  clear ht
  go_enter Tryz.func3, Tryz.ntmps3
  go_wp2_with fail
  refine (mats_any w HT.out).mono ?_
  rintro e w1 ⟨rfl, hb1⟩
  have HB1 := hide hb1
  have HLM := hide (lightM_any w1 _ rss 24 (HC.out.below hb1) (lightM rss 24) rfl)
  clear hb1
  cases hlm : lightM rss 24
  · rw [hlm] at HLM
    clear hlm
    go_wp2_with fail
    refine HLM.out.mono ?_
    rintro e w1' ⟨rfl, rfl⟩
    go_wp2
    go_ret
    exact ⟨rfl, HB1.out⟩
  · rw [hlm] at HLM
    obtain ⟨h14, hlv⟩ := lightM_parts hlm
    have HML := hide (HC.out.light hlv)
    go_wp2_with fail
    refine HLM.out.mono ?_
    rintro e w1' ⟨rfl, rfl⟩
    go_wp2_with fail
    refine (matFault_any _ _ rss nI (HML.out.below HB1.out (Nat.le_refl _))).mono ?_
    rintro e w2 ⟨rfl, hb2⟩
    have HB2 := hide (HB1.out.trans (hb2.mono HB1.out.size))
    clear hb2 HLM
    rcases fault_same rss nI with ⟨hc0, hf0⟩ | ⟨c, hc0, hck, hfk⟩
    · rw [hf0]
      obtain ⟨hn1, hn8, hm12, hrs⟩ := checkedM_nil.1 hc0
      obtain ⟨n, rfl⟩ : ∃ n : Nat, nI = (n : Int) := ⟨nI.toNat, by omega⟩
      have hMN := HML.out.toN (n := 8) (fun rs h => (hrs rs h).2) (fun rs h => lightV_eight (hlv rs h))
      obtain ⟨ms, hms⟩ : ∃ ms, rss.map (·.map Raw.z) = ms := ⟨_, rfl⟩
      have hlen : rss.length = ms.length := by rw [← hms, List.length_map]
      have hml : ∀ us ∈ ms, us.length = n := fun us h => by
        rw [← hms] at h
        obtain ⟨rs, h1, rfl⟩ := List.mem_map.1 h
        rw [List.length_map]
        have := (hrs rs h1).1
        omega
      rw [hms, hlen] at hMN
      rw [hlen]
      replace hm12 : ms.length ≤ 12 := by omega
      replace hn1 : 1 ≤ n := by omega
      replace hn8 : n ≤ 8 := by omega
      have HM := hide hMN; have HRL := hide hml
      clear hms hlen hlv hlm h14 hrs HC HML hMN hml hc0 hf0
      have hdt : dT 24 (n + min n (ms.length + n) + 1) ≤ 1000000000 := Nat.le_trans (dT_mono (show n + min n (ms.length + n) + 1 ≤ 17 by omega)) (by decide)
      have hnn : n * (n * 8 + 2) + 2 ≤ 530 := (by decide : ∀ n, n < 9 → n * (n * 8 + 2) + 2 ≤ 530) n (by omega)
      have HDT := hide hdt; have HNN := hide hnn
      clear hdt hnn
      go_wp2_with fail
      refine (kernel_ok w2 _ ms n (HM.out.below HB2.out (Nat.le_refl _)) HRL.out hn1 hn8 hm12).mono ?_
      rintro e w3 ⟨vk, hs, us, p, q, rfl, h1, h2, h3, h4, h5, hul, h6⟩
      have HH := hide h1; have HF := hide h2; have HA := hide h3; have HG := hide h4; have HGA := hide h5
      have HB3 := hide (HB2.out.trans (h6.mono HB2.out.size))
      have HHL : Hid (∀ r ∈ behindL hs.length us, r.length = n) := by
        obtain ⟨q', G'⟩ := behind_form h4
        exact G'.len
      have HKL : Hid ((behindL hs.length us).length ≤ 100) := by
        show _ ≤ _
        unfold behindL
        rw [List.length_map]
        exact Nat.le_trans (List.length_filter_le _ _) hul
      clear h2 h3 h4 h5 h6 hul
      obtain ⟨ho, hcap, rfl, -, -⟩ := h1
      go_wp2_with fail
      refine (same_zero w3).mono ?_
      rintro e w4'' ⟨rfl, rfl⟩
      go_wp2_with fail
      refine (fromMat_any _ _ ms 8 (HM.out.below HB3.out (Nat.le_refl _)) (by decide) (by omega) (fun zs h => by rw [HRL.out zs h]; omega)).mono ?_
      rintro e w5 ⟨u5, rfl, hu5, hb5⟩
      have HB5 := hide (HB3.out.trans (hb5.mono HB3.out.size))
      have HH5 := hide (HH.out.below hb5 (Nat.le_refl _))
      have HKR := hide (kernelR_any w5 u5 ms n 24 hu5 HRL.out hn1 hn8 hm12 (by decide) HDT.out)
      clear hu5 hb5 HH
      go_wp2_with fail
      refine HKR.out.mono ?_
      rintro e w6 ⟨u6, fs, p6, rfl, g1, g2, g3, g4⟩
      have hone := kernel_one HRL.out HF.out.len HA.out g2 g3 HG.out HGA.out
      rw [hone] at g1
      have HB6 := hide (HB5.out.trans (g4.mono HB5.out.size))
      have HH6 := hide (HH5.out.below g4 (Nat.le_refl _))
      have HMO := hide (matOfQ_any w6 u6 _ (3 * (n * (n * 8 + 2) + 2)) (g1.fits HH6.out.small) (by have := HKL.out; omega) (fun zs h => by rw [HHL.out zs h]; omega) (by have := HNN.out; omega))
      clear g1 g2 g3 g4 hone HKR HH5 HG HGA HF HA
      generalize behindL hs.length us = ks at *
      go_wp2_with fail
      refine HMO.out.mono ?_
      rintro e w7 ⟨u7, rfl, k1, k2⟩
      have HB7 := hide (HB6.out.trans (k2.mono HB6.out.size))
      have HSM := hide (sameMat_any w7 _ _ ks ks _ _ (HH6.out.below k2 (Nat.le_refl _)) k1 (by have := HKL.out; omega) (fun zs hz => by rw [HHL.out zs hz]; omega) true (by simp))
      clear k1 k2 HMO HH6
      go_wp2_with fail
      refine HSM.out.mono ?_
      rintro e w8 ⟨rfl, hb8⟩
      have HB8 := hide (HB7.out.trans (hb8.mono HB7.out.size))
      clear hb8 HSM
      go_wp2
      go_ret
      exact ⟨rfl, HB8.out⟩
    · rw [hfk]
      have HHB := hide (kernel_bad w2 _ rss nI c (HML.out.below HB2.out (Nat.le_refl _)) hck)
      clear hfk hck hlv hlm
      go_wp2_with fail
      refine HHB.out.mono ?_
      rintro e w3 ⟨rfl, hb3⟩
      have HB3 := hide (HB2.out.trans (hb3.mono HB2.out.size))
      clear hb3 HHB
      go_wp2_with fail
      refine (same_of c hc0 w3).mono ?_
      rintro e w4' ⟨rfl, rfl⟩
      go_wp2
      go_ret
      exact ⟨rfl, HB3.out⟩

end Go.Proofs.YtofegldopgkikaaGreatDoor
