/- TopSmith: rows become places. -/
import Derived.Test.YtmeefloajhffbaaDoorTsE
import Derived.Test.YtmeefloajhffbaaDoorVecG
import Derived.Test.YtmeefloajhffbaaDoorDetW
import Derived.Test.YtmeefloajhffbaaDoorLightM
import Derived.Deep.Cut
import Derived.Deep.CutRange
import Derived.Deep.CutBlock
namespace Go.Proofs.YtmeefloajhffbaaDoor
open Go.RowKit Limbs

instance roomS8d (n nv : Nat) : Decidable (RoomS n nv) := by unfold RoomS; infer_instance

theorem roomS8 : ∀ m, m < 5 → RoomS m 8 := by decide

theorem cols_take (ms : List (List Int)) (n c : Nat) (hc : c < n) : (colsL ms n).take (c + 1) = (colsL ms n).take c ++ [ms.map fun r => r.getD c 0] := by
  have hl : c < (colsL ms n).length := by rw [colsL_length]; exact hc
  rw [List.take_succ_eq_append_getElem hl]
  have h := colsL_get ms n c hc
  rw [List.getD_eq_getElem?_getD, List.getElem?_eq_getElem hl, Option.getD_some] at h
  rw [h]

set_option linter.unusedSimpArgs false in
set_option maxRecDepth 100000 in
set_option maxHeartbeats 6400000 in
theorem topSmith_S (w W : World) (mo zo : Option Addr) (mcap zcap PB n M MP : Nat) (pn : Bool) (pO : Option Addr) (pL pC : Nat) (ms : List (List Int)) (ys : List Int) (hbe : Below w.heap.size w W) (hM : MatN w (.slice mo ms.length mcap) ms 8) (hml : ∀ us ∈ ms, us.length = n) (hn1 : 1 ≤ n) (hn4 : n ≤ 4) (hm1 : 1 ≤ ms.length) (hm4 : ms.length ≤ 4) (hy4 : ys.length ≤ 4) (hyn : ys.length ≤ n) (hD : VecN W (.slice zo ys.length zcap) ys M) (hP : BoxL W PB (.bool pn) (.slice pO pL pC)) (hpn : NumL W (.agg #[.bool pn, .slice pO pL pC]) (prodN ys.length (fun i => ys.getD i 0)) MP) (hdet : ms.length = n → ys.length = n → (if det n (ent ms) < 0 then -det n (ent ms) else det n (ent ms)) = prodN ys.length (fun i => ys.getD i 0)) (hpos : ∀ i, i < ys.length → 0 < ys.getD i 0) (hch : ∀ i j, i < j → j < ys.length → ∃ p, ys.getD j 0 = p * ys.getD i 0) (hdv : ∀ k g, Dv k ms.length n (ent ms) g ↔ Dv k ys.length ys.length (dgM fun i => ys.getD i 0) g) (sl2 sl3 sl4 sl5 sl6 sl7 sl9 sl10 sl12 sl13 sl14 sl15 sl16 sl17 sl18 sl19 sl20 sl21 sl22 sl23 sl24 sl25 sl26 sl27 sl28 sl29 sl30 sl31 sl32 sl33 sl34 sl35 sl36 sl37 sl38 sl39 sl40 sl41 sl42 sl43 sl44 sl45 sl46 sl47 sl48 sl49 sl50 sl51 sl52 sl53 sl54 sl55 sl56 sl57 sl58 sl59 sl60 sl61 sl62 sl63 sl64 sl65 sl66 sl67 sl68 sl69 sl70 sl71 sl72 sl73 sl74 sl75 sl76 sl77 sl78 sl79 sl80 sl81 sl82 sl83 sl84 sl85 sl86 sl87 sl88 sl89 sl90 sl91 sl92 sl93 sl94 sl95 sl96 sl97 sl98 sl99 sl100 sl101 sl102 sl103 sl104 sl105 sl106 sl107 sl108 sl109 sl110 sl111 sl112 sl113 sl114 sl115 sl116 sl117 sl118 sl119 sl120 sl121 sl122 sl123 sl124 sl125 sl126 sl127 sl128 sl129 sl130 sl131 sl132 sl133 sl134 sl135 sl136 sl137 sl138 sl139 sl140 sl141 sl142 sl143 sl144 sl145 sl146 sl147 sl148 sl149 sl150 sl151 sl152 sl153 sl154 sl155 sl156 sl157 sl158 sl159 sl160 sl161 sl162 sl163 sl164 sl165 sl166 sl167 sl168 sl169 sl170 sl171 sl172 sl173 sl174 sl175 sl176 sl177 sl178 sl179 sl180 sl181 sl182 sl183 sl184 sl185 sl186 sl187 sl188 sl189 sl190 sl191 sl192 sl193 sl194 sl195 sl196 sl197 sl198 sl199 sl200 sl201 sl202 sl203 sl204 sl205 sl206 sl207 sl208 sl209 sl210 sl211 sl212 : Value) :
    (Code.tl (Code.tl (Code.tl (Code.tl (Code.tl (Code.tl (Code.tl (Code.tl (Code.tl (Code.tl ((Tryd.f4.body).getD .skip))))))))))).wp Tryd.prog (bodyPost Tryd.prog Tryd.f4 (fun e w' => e = .returned (.bool true) ∧ Below w.heap.size w w')) ⟨#[(.slice mo ms.length mcap), (.int .i64 (n : Int)), sl2, sl3, sl4, sl5, sl6, sl7, (.slice zo ys.length zcap), sl9, sl10, (.pointer (some ⟨PB, 0, none⟩)), sl12, sl13, sl14, sl15, sl16, sl17, sl18, sl19, sl20, sl21, sl22, sl23, sl24, sl25, sl26, sl27, sl28, sl29, sl30, sl31, sl32, sl33, sl34, sl35, sl36, sl37, sl38, sl39, sl40, sl41, sl42, sl43, sl44, sl45, sl46, sl47, sl48, sl49, sl50, sl51, sl52, sl53, sl54, sl55, sl56, sl57, sl58, sl59, sl60, sl61, sl62, sl63, sl64, sl65, sl66, sl67, sl68, sl69, sl70, sl71, sl72, sl73, sl74, sl75, sl76, sl77, sl78, sl79, sl80, sl81, sl82, sl83, sl84, sl85, sl86, sl87, sl88, sl89, sl90, sl91, sl92, sl93, sl94, sl95, sl96, sl97, sl98, sl99, sl100, sl101, sl102, sl103, sl104, sl105, sl106, sl107, sl108, sl109, sl110, sl111, sl112, sl113, sl114, sl115, sl116, sl117, sl118, sl119, sl120, sl121, sl122, sl123, sl124, sl125, sl126, sl127, sl128, sl129, sl130, sl131, sl132, sl133, sl134, sl135, sl136, sl137, sl138, sl139, sl140, sl141, sl142, sl143, sl144, sl145, sl146, sl147, sl148, sl149, sl150, sl151, sl152, sl153, sl154, sl155, sl156, sl157, sl158, sl159, sl160, sl161, sl162, sl163, sl164, sl165, sl166, sl167, sl168, sl169, sl170, sl171, sl172, sl173, sl174, sl175, sl176, sl177, sl178, sl179, sl180, sl181, sl182, sl183, sl184, sl185, sl186, sl187, sl188, sl189, sl190, sl191, sl192, sl193, sl194, sl195, sl196, sl197, sl198, sl199, sl200, sl201, sl202, sl203, sl204, sl205, sl206, sl207, sl208, sl209, sl210, sl211, sl212], []⟩ W := by
  simp only [Code.tl, Tryd.f4, Option.getD_some]
  obtain ⟨i0, hi, hz0, hz1, hz2⟩ := info_parts Tryd.infoNum
  obtain ⟨j0, hj, hy0, hy1, hy2⟩ := info_parts Tryd.infoVec
  have HJ := hide hj; have HY0 := hide hy0; have HY1 := hide hy1; have HY2 := hide hy2
  have HI := hide hi; have HZ0 := hide hz0; have HZ1 := hide hz1; have HZ2 := hide hz2
  clear hj hy0 hy1 hy2 hi hz0 hz1 hz2
  have HM := hide hM; have HML := hide hml; have HBE := hide hbe; have VD := hide hD; have HPW := hide hP; have NPW := hide hpn; have HDET := hide hdet; have HPOS := hide hpos; have HCH := hide hch; have HDV := hide hdv
  clear hM hml hbe hD hP hpn hdet hpos hch hdv
  go_wp2
  go_loopw [16, 17] (fun t x wr => ∃ (c : Nat) (qs : List (Value × List Int)), c ≤ n ∧ x = .int .i64 c ∧ Hid (GrowV wr W.heap.size t qs 8) ∧ Hid (qs.map (·.2) = (colsL ms n).take c) ∧ Hid (Below W.heap.size W wr)) (fun _ x _ => n - (intOf x).toNat)
  case atStart => exact ⟨0, [], Nat.zero_le _, rfl, hide (GrowV.nil _ _ _), hide (by rw [List.take_zero]; rfl), hide (Below.refl _ _)⟩
  case round =>
    obtain ⟨c, qs, hc, rfl, HG, HQ, HBW⟩ := hrel
    have HQL : Hid (qs.length = c) := by
      have h := congrArg List.length HQ.out
      rw [List.length_map, List.length_take, colsL_length] at h
      show _ = _
      omega
    by_cases hcn : c < n
    · generalize wr = W1 at *
      go_wp2
      go_loopw [18, 19] (fun v y wx => ∃ (i : Nat) (ps : List (Nm × Int)), i ≤ ms.length ∧ y = .int .i64 i ∧ Hid (Grow wx W1.heap.size v ps 8) ∧ Hid (ps.map (·.2) = (ms.take i).map fun r => r.getD c 0) ∧ Hid (ps.length = i) ∧ Hid (Below W1.heap.size W1 wx)) (fun _ y _ => ms.length - (intOf y).toNat)
      case atStart => exact ⟨0, [], Nat.zero_le _, rfl, hide (Grow.nil _ _ _), hide rfl, hide rfl, hide (Below.refl _ _)⟩
      case round =>
        obtain ⟨i, ps, hi, rfl, HV, HP, HPL, HBX⟩ := hrel
        by_cases him : i < ms.length
        · have hbw := HBE.out.trans ((HBW.out.trans (HBX.out.mono HBW.out.size)).mono HBE.out.size)
          obtain ⟨mb, moff, _, e, mlt, vr, cr, hvr⟩ := HM.out.at i him
          simp only [Value.slice.injEq, true_and] at e
          obtain ⟨rfl, rfl⟩ := e
          have hul := HML.out _ (List.getElem_mem him)
          have HTK : Hid ((ms.take (i + 1)).map (fun r => r.getD c 0) = (ms.take i).map (fun r => r.getD c 0) ++ [(ms[i]).getD c 0]) := by
            show _ = _
            rw [List.take_succ_eq_append_getElem him, List.map_append]; rfl
          generalize ms[i] = us at *
          have huc : c < us.length := by omega
          obtain ⟨vb, voff, vcap, rfl⟩ := hvr.form (by omega)
          obtain ⟨vbl, yn, yo, yl, yc, c0, c1, ny⟩ := hvr.at c huc
          generalize us.getD c 0 = y at *
          have d0 := (hbw.cell (p := ⟨mb, moff + i, none⟩) mlt).trans cr
          have d1 := (hbw.cell (p := ⟨vb, voff + c * 2, none⟩) vbl).trans c0
          have d2 := (hbw.cell (p := ⟨vb, voff + c * 2 + 1, none⟩) vbl).trans c1
          have HAP : Hid (apart u18.ownBlock (Nm.sl ⟨yn, yo, yl, yc⟩)) := fun a l c e h0 hb => by
            have h1 := NumL.inside (r := ⟨yn, yo, yl, yc⟩) ny a l c e h0
            have h2 := (HV.out.1.lt a.block hb.symm).1
            have h3 := HBE.out.size; have h4 := HBW.out.size
            omega
          have NY2 : Hid (NumL wr (Nm.val ⟨yn, yo, yl, yc⟩) y 8) := ny.below hbw (Nat.le_refl _)
          have hown := HV.out.1
          have hbs := HBX.out.size
          have hi' := HI.out; have hz0 := HZ0.out; have hz1 := HZ1.out; have hz2 := HZ2.out
          have HUL := hide hul
          clear hul hvr cr c0 c1 ny hbw
          go_wp2_with (at_builtin; refine wpList_append_lies _ rfl _ _ 32 rfl W1.heap.size 26 i0 (.agg #[.bool false, .slice none 0 0]) 2 32 (by kernel_rfl) hi' hz0 hz1 hz2 rfl (by decide) u18 ps.length (ps.flatMap ncells) rfl (hown.alloc _) ⟨wr.heap.size, 0, none⟩ 1 1 [.bool yn, .slice yo yl yc] rfl rfl (World.news_of_block (heap_alloc_new wr _)) (fun u hu => by simp only [List.mem_cons, List.mem_nil_iff, or_false] at hu; rcases hu with rfl | rfl <;> rfl) (by decide) (by unfold maxLen; have := HPL.out; omega) (by have := HPL.out; omega) (by simp; omega) (wr.heap.size + 1) (by simp) ?_)
          intro g cap' w5 hown5 hgrow5 hat5 hlt5
          have HN := hide (grow_snoc HV.out NY2.out HAP.out hown5 hgrow5 hat5)
          have HE5 := hide (HBX.out.trans (grow_below HV.out HBX.out.size hgrow5))
          have HP' : Hid ((ps ++ [((⟨yn, yo, yl, yc⟩ : Nm), y)]).map (·.2) = (ms.take (i + 1)).map fun r => r.getD c 0) := by
            show _ = _
            rw [List.map_append, HP.out, HTK.out]; rfl
          have HPL' : Hid ((ps ++ [((⟨yn, yo, yl, yc⟩ : Nm), y)]).length = i + 1) := by
            have := HPL.out
            show _ = _
            rw [List.length_append, List.length_singleton]; omega
          clear hown hown5 hgrow5 hat5 hlt5 HV NY2 HBX HAP d0 d1 d2 hi' hz0 hz1 hz2 HP HPL HTK
          go_wp2
          go_roundw
          case rel => exact ⟨i + 1, _, by omega, by go_num, HN, HP', HPL', HE5⟩
          case measure => simp [intOf]; omega
        · obtain rfl : i = ms.length := by omega
          rw [List.take_length] at HP
          obtain ⟨vo, vl, vc, rfl⟩ : ∃ vo vl vc, u18 = .slice vo vl vc := by
            rcases HV.out.1.2 with ⟨e1, -⟩ | ⟨g', cap', cur, e1, -⟩
            · exact ⟨_, _, _, e1⟩
            · exact ⟨_, _, _, e1⟩
          have HVV := hide HV.out.vec
          rw [HP.out] at HVV
          have HGX := hide (HG.out.later HBX.out)
          have hown := HGX.out.own
          have hall := HGX.out.all.later ((Below.refl _ _).alloc (Nat.le_refl _) (.cells #[.slice vo vl vc] 32))
          have HBWX := hide (HBW.out.trans (HBX.out.mono HBW.out.size))
          have hbs := HBWX.out.size
          have hj := HJ.out; have hy0 := HY0.out; have hy1 := HY1.out; have hy2 := HY2.out
          go_wp2_with (at_builtin; refine wpList_append_sl rfl _ _ 23 rfl W.heap.size 32 j0 24 (by kernel_rfl) hj hy0 hy1 hy2 u16 qs.length (qs.map (·.1)) rfl (hown.alloc _) hall ⟨wr.heap.size, 0, none⟩ 1 vo vl vc rfl (World.news_of_block (heap_alloc_new wr _)) (by unfold maxLen; have := HQL.out; omega) (by have := HQL.out; omega) (by simp; omega) ?_)
          intro g cap' w5 hown5 hgrow5 hall5
          have HG5 := hide (growV_snoc (HGX.out.later ((Below.refl _ _).alloc (Nat.le_refl _) _)) (HVV.out.below ((Below.refl _ _).alloc (Nat.le_refl _) _) (Nat.le_refl _)) hown5 hgrow5 hall5)
          have HB5 := hide ((HBWX.out.alloc HBWX.out.size _).trans (grownV_below (HGX.out.later ((Below.refl _ _).alloc (Nat.le_refl _) _)) (by simp; omega) hgrow5))
          have HQ5 : Hid ((qs ++ [(Value.slice vo vl vc, ms.map fun r => r.getD c 0)]).map (·.2) = (colsL ms n).take (c + 1)) := by
            show _ = _
            rw [List.map_append, HQ.out, cols_take ms n c hcn]; rfl
          clear hown hall hown5 hgrow5 hall5 hj hy0 hy1 hy2 HGX HVV HBWX HQ HP HV HG
          go_wp2
          go_roundw
          case rel => exact ⟨c + 1, _, by omega, by go_num, HG5, HQ5, HB5⟩
          case measure => simp [intOf]; omega
    · obtain rfl : c = n := by omega
      rw [show (colsL ms c).take c = colsL ms c from List.take_of_length_le (by rw [colsL_length]; exact Nat.le_refl _)] at HQ
      have HMT := hide HG.out.mat
      rw [HQ.out] at HMT
      have HBX := hide (HBE.out.trans (HBW.out.mono HBE.out.size))
      obtain ⟨tO, tcap, rfl, -, -⟩ := id HMT.out
      go_upto_region 32 with fail
      go_cut [20, 6] from 23 (fun v v2 wc => v2 = .nilIface ∧ ∃ eo ecap M2, v = .slice eo ys.length ecap ∧ VecN wc (.slice eo ys.length ecap) ys M2 ∧ Below wr.heap.size wr wc)
      case first =>
        go_wp2_with fail
        refine (smith_any wr _ (colsL ms c) ms.length 8 HMT.out (colsL_len ms c) hm1 (by omega) (by rw [colsL_length]; omega) (roomS8 ms.length (by omega))).mono ?_
        rintro e w4 ⟨P4, M4, ys4, hs4, fs4, p4, D4, rfl, f4, a4, v4, c4, t4, -, -, -⟩
        obtain rfl : ys4 = ys := inv_one (fun i hi => c4.pos i (by rw [← c4.len]; exact hi)) HPOS.out (fun i j h1 h2 => c4.chain i (by rw [← c4.len]; omega) j h1 (by rw [← c4.len]; exact h2)) HCH.out fun k g => by
          have h1 := smith_dv f4 a4 (colsL_len ms c) t4 c4 k g
          rw [colsL_length] at h1
          exact h1.symm.trans (dv_cols.symm.trans (HDV.out k g))
        have HV4 := hide v4.vec; have HB4 := hide v4.below
        rw [← c4.len]
        clear f4 a4 v4 c4 t4
        go_wp2
        go_meet
        case rel => exact ⟨rfl, _, _, _, rfl, HV4.out, HB4.out⟩
      case rest =>
      obtain ⟨rfl, eo, ecap, M2, rfl, hv, hb⟩ := hcut
      have HV4 := hide hv; have HB4 := hide hb
      clear hv hb
      go_upto_if 173 with fail
      go_cut [] from 23 (fun wx => wx = wc)
      case first =>
        go_wp2
        go_meet
        case rel => rfl
      case rest =>
      subst hcut
      apply_assumption
      exact topSmith_E w _ mo zo eo mcap zcap ecap PB c M M2 MP pn pO pL pC ms ys (HBX.out.trans (HB4.out.mono HBX.out.size)) HM.out HML.out hn1 hn4 hm1 hm4 hy4 hyn ((VD.out.below HBW.out (Nat.le_refl _)).below HB4.out (Nat.le_refl _)) HV4.out ((HPW.out.later HBW.out).later HB4.out) ((NPW.out.below HBW.out (Nat.le_refl _)).below HB4.out (Nat.le_refl _)) HDET.out _ _ _ _ _ _ _ _ _ _ _ _ _ _ _ _ _ _ _ _ _ _ _ _ _ _ _ _ _ _ _ _ _ _ _ _ _ _ _ _ _ _ _ _ _ _ _ _ _ _ _ _ _ _ _ _ _ _ _ _ _ _ _ _ _ _ _ _ _ _ _ _ _ _ _ _ _ _ _ _ _ _ _ _ _ _ _ _ _ _ _ _ _ _ _ _ _ _ _ _ _ _ _ _ _ _ _ _ _ _ _ _ _ _ _ _ _ _ _ _ _ _ _ _ _ _ _ _ _ _ _ _ _ _ _ _ _ _ _ _ _ _ _ _ _ _ _ _ _ _ _ _ _ _ _ _ _ _ _ _ _ _ _ _ _ _ _ _ _ _ _ _ _ _ _ _ _ _ _ _ _ _ _ _ _ _ _ _ _ _ _ _ _ _ _ _ _ _ _ _ _ _ _ _ _ _ _ _

end Go.Proofs.YtmeefloajhffbaaDoor
