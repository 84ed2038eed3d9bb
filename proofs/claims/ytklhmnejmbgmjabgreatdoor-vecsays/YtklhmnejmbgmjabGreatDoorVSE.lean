/- VecSays: the first place, the text; what is wrong with the rows; so much of each row. -/
import Derived.Test.YtklhmnejmbgmjabGreatDoorVSF
import Derived.Test.YtklhmnejmbgmjabGreatDoorTopTextA
namespace Go.Proofs.YtklhmnejmbgmjabGreatDoor
open Go.RowKit Limbs Digs

/-- Rows as they came in, light ones. -/
def MatL (w : World) (v : Value) (rss : List (List Raw)) : Prop :=
  ∃ ao cap, v = .slice ao rss.length cap ∧ rss.length ≤ cap ∧ (0 < rss.length → ∃ b off, ao = some ⟨b, off, none⟩ ∧ b < w.heap.size ∧ ∀ i rs, rss[i]? = some rs → ∃ u, w.cell? ⟨b, off + i, none⟩ = some u ∧ VecL w u rs)

theorem MatL.below {B : Nat} {w w' : World} {v : Value} {rss : List (List Raw)} (h : MatL w v rss) (hb : Below B w w') (hB : w.heap.size ≤ B) : MatL w' v rss := by
  obtain ⟨ao, cap, hv, h1, h2⟩ := h
  refine ⟨ao, cap, hv, h1, fun h0 => ?_⟩
  obtain ⟨b, off, e, hlt, hc⟩ := h2 h0
  refine ⟨b, off, e, Nat.lt_of_lt_of_le hlt hb.size, fun i zs hi => ?_⟩
  obtain ⟨u, h3, h4⟩ := hc i zs hi
  exact ⟨u, (hb.cell (p := ⟨b, off + i, none⟩) (Nat.lt_of_lt_of_le hlt hB)).trans h3, h4.below hb hB⟩

theorem firstFrom_end (xs : List Int) : firstFrom xs xs.length = -1 := by
  unfold firstFrom
  rw [List.drop_length, if_pos (by show (-1 : Int) < 0; decide)]

theorem firstFrom_zero (xs : List Int) : firstFrom xs 0 = first xs := by
  unfold firstFrom
  have := first_ge xs
  rw [List.drop_zero]
  split <;> omega

theorem NumR.sign0 {w : World} {s : Int} {sl : Value} {z : Int} {n : Nat} (h : NumR w (.agg #[.int .i64 s, sl]) z n) : s = 0 ↔ z = 0 := by
  obtain ⟨s', sl', ds, e, hd, hn, hz, hs, -⟩ := h
  simp only [Value.agg.injEq, Array.mk.injEq, List.cons.injEq, Value.int.injEq, true_and, and_true] at e
  obtain ⟨rfl, rfl⟩ := e
  obtain ⟨_, _, _, _, _, hdb, _⟩ := hd
  rcases hs with ⟨h0, h1, -⟩ | ⟨h0, h1⟩
  · rw [hz, h1]; simp
  · have hne : dv ds ≠ 0 := fun h => by
      have := (dv_zero_iff hdb hn).1 h
      omega
    constructor
    · intro h; omega
    · intro h
      rw [hz] at h
      rcases Int.mul_eq_zero.1 h with h' | h'
      · exact h'
      · exact absurd h' hne

theorem fault_zero {rs : List Raw} (h : faultV rs = 0) : 1 ≤ rs.length ∧ rs.length ≤ 8 ∧ rs.all Raw.num = true := by
  unfold faultV at h
  split at h
  · cases h
  · rename_i hn
    refine ⟨by omega, by omega, ?_⟩
    unfold faulty at h
    split at h
    · assumption
    · cases h

theorem fault_pos (rs : List Raw) : faultV rs = 0 ∨ 0 < faultV rs := by
  unfold faultV faulty
  repeat' split
  all_goals omega

theorem MatL.nums {w : World} {v : Value} {rss : List (List Raw)} (h : MatL w v rss) (hf : ∀ rs ∈ rss, faultV rs = 0) (h8 : ∀ rs ∈ rss, ∀ r ∈ rs, r.zs.length ≤ 8) : MatN w v (rss.map (·.map Raw.z)) 8 := by
  obtain ⟨ao, cap, hv, h1, h2⟩ := h
  have hlen : (rss.map (·.map Raw.z)).length = rss.length := List.length_map ..
  refine ⟨ao, cap, by rw [hlen]; exact hv, by rw [hlen]; exact h1, fun h0 => ?_⟩
  rw [hlen] at h0
  obtain ⟨b, off, e, hlt, hc⟩ := h2 h0
  refine ⟨b, off, e, hlt, fun i zs hi => ?_⟩
  obtain ⟨hi', e'⟩ := List.getElem?_eq_some_iff.1 hi
  rw [hlen] at hi'
  rw [List.getElem_map] at e'
  obtain ⟨u, h3, h4⟩ := hc i rss[i] (by simp [hi'])
  have hm : rss[i] ∈ rss := List.getElem_mem hi'
  exact ⟨u, h3, by rw [← e']; exact h4.nums (fault_zero (hf _ hm)).2.2 (h8 _ hm)⟩

set_option linter.unusedSimpArgs false in
set_option maxRecDepth 100000 in
set_option maxHeartbeats 6400000 in
theorem vecSays_E (w W : World) (va vb vm vx vt : Value) (kn : Bool) (ko : Option Addr) (kl kc : Nat) (z : Int) (xs ys : List Int) (rss : List (List Raw)) (N : Nat) (hbe : Below w.heap.size w W) (ht : Tab w) (hA : VecN w va xs 8) (hB : VecN w vb ys 8) (hN : ys.length = N) (hN8 : N ≤ 8) (hx1 : 1 ≤ xs.length) (hx8 : xs.length ≤ 8) (hM : MatL w vm rss) (hr14 : rss.length ≤ 14) (hr10 : ∀ rs ∈ rss, rs.length ≤ 10) (hr8 : ∀ rs ∈ rss, ∀ r ∈ rs, r.zs.length ≤ 8) (hX : MatR W vx [xs, ys] 24) (hK : NumL w (.agg #[.bool kn, .slice ko kl kc]) z 8) (hkb : Box W w.heap.size (.bool kn) (.slice ko kl kc)) (hks : w.heap.size < W.heap.size) (hT : VecN W vt (xs.map (z * ·)) 16) (sl2 sl4 sl5 sl6 sl8 sl9 sl10 sl11 sl12 sl13 sl14 sl15 sl16 sl17 sl19 sl20 sl21 sl22 sl23 sl25 sl26 sl27 sl28 sl29 sl30 sl31 sl32 sl33 sl34 sl35 sl36 sl37 sl38 sl39 sl40 sl41 sl42 sl43 sl44 sl45 sl46 sl47 sl48 sl49 sl50 sl51 sl52 sl53 sl54 sl55 sl56 sl57 sl58 sl59 sl60 sl61 sl62 sl63 sl64 sl65 sl66 sl67 sl68 sl69 sl70 sl71 sl72 sl73 sl74 sl75 sl76 sl77 sl78 sl79 sl80 sl81 sl82 sl83 sl84 sl85 sl86 sl87 sl88 sl89 sl90 sl91 sl92 sl93 sl94 sl95 sl96 sl97 sl98 sl99 sl100 sl101 sl102 sl103 sl104 sl105 sl106 sl107 sl108 sl109 sl110 sl111 sl112 sl113 sl114 sl115 sl116 sl117 sl118 sl119 sl120 sl121 sl122 sl123 sl124 sl125 sl126 sl127 sl128 sl129 sl130 sl131 sl132 sl133 sl134 sl135 sl136 sl137 sl138 sl139 sl140 sl141 sl142 sl143 sl144 sl145 sl146 sl147 sl148 sl149 sl150 sl151 sl152 sl153 sl154 sl155 sl156 sl157 sl158 sl159 sl160 sl161 sl162 sl163 sl164 sl165 sl166 sl167 sl168 sl169 sl170 sl171 sl172 sl173 sl174 sl175 sl176 sl177 sl178 sl179 sl180 sl181 sl182 sl183 sl184 sl185 sl186 sl187 sl188 sl189 sl190 sl191 sl192 sl193 sl194 sl195 sl196 sl197 sl198 sl199 sl200 sl201 sl202 sl203 sl204 sl205 sl206 sl207 sl208 sl209 sl210 sl211 sl212 sl213 sl214 sl215 sl216 sl217 sl218 sl219 sl220 sl221 sl222 sl223 sl224 sl225 sl226 sl227 sl228 sl229 sl230 sl231 sl232 sl233 sl234 sl235 sl236 sl237 sl238 sl239 sl240 sl241 sl242 sl243 sl244 sl245 sl246 sl247 sl248 sl249 sl250 sl251 sl252 sl253 sl254 sl255 sl256 sl257 sl258 sl259 sl260 sl261 sl262 sl263 sl264 sl265 sl266 sl267 sl268 sl269 sl270 sl271 sl272 sl273 sl274 sl275 sl276 sl277 sl278 sl279 sl280 sl281 sl282 sl283 sl284 sl285 sl286 sl287 sl288 sl289 sl290 sl291 sl292 sl293 sl294 sl295 sl296 sl297 sl298 sl299 sl300 sl301 sl302 sl303 sl304 sl305 sl306 sl307 sl308 sl309 sl310 sl311 sl312 sl313 sl314 sl315 sl316 sl317 sl318 sl319 sl320 sl321 sl322 sl323 sl324 sl325 sl326 sl327 sl328 sl329 sl330 sl331 sl332 sl333 sl334 sl335 sl336 sl337 sl338 sl339 sl340 sl341 sl342 sl343 sl344 sl345 sl346 sl347 sl348 sl349 sl350 sl351 sl352 sl353 sl354 sl355 sl356 sl357 sl358 sl359 sl360 sl361 sl362 sl363 sl364 sl365 sl366 sl367 sl368 sl369 : Value) :
    (Code.tl (Code.tl (Code.tl (Code.tl (Code.tl (Code.tl (Code.tl (Code.tl (Code.tl (Code.tl (Code.tl (Code.tl (Code.tl (Code.tl (Code.tl ((Tryz.f3.body).getD .skip)))))))))))))))).wp Tryz.prog (bodyPost Tryz.prog Tryz.f3 (fun e w' => e = .returned (.bool true) ∧ Below w.heap.size w w')) ⟨#[va, vb, sl2, vm, sl4, sl5, sl6, .pointer (some ⟨w.heap.size, 0, none⟩), sl8, sl9, sl10, sl11, sl12, sl13, sl14, sl15, sl16, sl17, vx, sl19, sl20, sl21, sl22, sl23, vt, sl25, sl26, sl27, sl28, sl29, sl30, sl31, sl32, sl33, sl34, sl35, sl36, sl37, sl38, sl39, sl40, sl41, sl42, sl43, sl44, sl45, sl46, sl47, sl48, sl49, sl50, sl51, sl52, sl53, sl54, sl55, sl56, sl57, sl58, sl59, sl60, sl61, sl62, sl63, sl64, sl65, sl66, sl67, sl68, sl69, sl70, sl71, sl72, sl73, sl74, sl75, sl76, sl77, sl78, sl79, sl80, sl81, sl82, sl83, sl84, sl85, sl86, sl87, sl88, sl89, sl90, sl91, sl92, sl93, sl94, sl95, sl96, sl97, sl98, sl99, sl100, sl101, sl102, sl103, sl104, sl105, sl106, sl107, sl108, sl109, sl110, sl111, sl112, sl113, sl114, sl115, sl116, sl117, sl118, sl119, sl120, sl121, sl122, sl123, sl124, sl125, sl126, sl127, sl128, sl129, sl130, sl131, sl132, sl133, sl134, sl135, sl136, sl137, sl138, sl139, sl140, sl141, sl142, sl143, sl144, sl145, sl146, sl147, sl148, sl149, sl150, sl151, sl152, sl153, sl154, sl155, sl156, sl157, sl158, sl159, sl160, sl161, sl162, sl163, sl164, sl165, sl166, sl167, sl168, sl169, sl170, sl171, sl172, sl173, sl174, sl175, sl176, sl177, sl178, sl179, sl180, sl181, sl182, sl183, sl184, sl185, sl186, sl187, sl188, sl189, sl190, sl191, sl192, sl193, sl194, sl195, sl196, sl197, sl198, sl199, sl200, sl201, sl202, sl203, sl204, sl205, sl206, sl207, sl208, sl209, sl210, sl211, sl212, sl213, sl214, sl215, sl216, sl217, sl218, sl219, sl220, sl221, sl222, sl223, sl224, sl225, sl226, sl227, sl228, sl229, sl230, sl231, sl232, sl233, sl234, sl235, sl236, sl237, sl238, sl239, sl240, sl241, sl242, sl243, sl244, sl245, sl246, sl247, sl248, sl249, sl250, sl251, sl252, sl253, sl254, sl255, sl256, sl257, sl258, sl259, sl260, sl261, sl262, sl263, sl264, sl265, sl266, sl267, sl268, sl269, sl270, sl271, sl272, sl273, sl274, sl275, sl276, sl277, sl278, sl279, sl280, sl281, sl282, sl283, sl284, sl285, sl286, sl287, sl288, sl289, sl290, sl291, sl292, sl293, sl294, sl295, sl296, sl297, sl298, sl299, sl300, sl301, sl302, sl303, sl304, sl305, sl306, sl307, sl308, sl309, sl310, sl311, sl312, sl313, sl314, sl315, sl316, sl317, sl318, sl319, sl320, sl321, sl322, sl323, sl324, sl325, sl326, sl327, sl328, sl329, sl330, sl331, sl332, sl333, sl334, sl335, sl336, sl337, sl338, sl339, sl340, sl341, sl342, sl343, sl344, sl345, sl346, sl347, sl348, sl349, sl350, sl351, sl352, sl353, sl354, sl355, sl356, sl357, sl358, sl359, sl360, sl361, sl362, sl363, sl364, sl365, sl366, sl367, sl368, sl369], []⟩ W := by
  simp only [Code.tl, Tryz.f3, Option.getD_some]
  have HA := hide hA; have HB := hide hB; have HM := hide hM; have HX := hide hX; have HBE := hide hbe; have HT := hide ht; have HR10 := hide hr10; have HR8 := hide hr8
  have HTX := hide hA.txts
  have HJN := hide (hA.join hx8)
  obtain ⟨bo, bcap, rfl, -, -⟩ := hB
  obtain ⟨mo, mcap, rfl, -, -⟩ := hM
  rw [hN]
  clear hA hX hbe ht hr10 hr8
  have HK := hide hK; have HKB := hide hkb; have HTV := hide hT
  obtain ⟨xb, xcap, exx, -⟩ := HX.out.at 0 (by simp)
  have exx' : vx = .slice (some ⟨xb, 0, none⟩) 2 xcap := exx
  subst exx'
  have hlt : (xs.map (z * ·)).length = xs.length := List.length_map ..
  obtain ⟨tb, toff, tcap, et⟩ := hT.form (by omega)
  rw [hlt] at et
  subst et
  have HMAP := hide (map_getD' (z * ·) xs)
  obtain ⟨ab0, aoff0, acap0, ea⟩ := HA.out.form (by omega)
  subst ea
  clear exx hK hkb hT
  go_wp2
  go_loopw [25, 26] (fun fv iv wr => ∃ k : Nat, k ≤ xs.length ∧ iv = .int .i64 ((k : Int) - 1) ∧ fv = .int .i64 (firstFrom xs k) ∧ Below W.heap.size W wr) (fun _ iv _ => (intOf iv + 1).toNat)
  case atStart => exact ⟨xs.length, Nat.le_refl _, rfl, by rw [firstFrom_end], Below.refl _ _⟩
  case round =>
    obtain ⟨k0, hk0, rfl, rfl, hbi⟩ := hrel
    have HBI := hide hbi
    clear hbi
    by_cases hkz : k0 = 0
    · subst hkz
      have HFF : Hid (firstFrom xs 0 = first xs) := firstFrom_zero xs
      rw [HFF.out]
      have HBR := hide (HBE.out.trans (HBI.out.mono HBE.out.size))
      have HXR := hide (HX.out.below HBI.out (Nat.le_refl _))
      have hm1 : (((0 : Nat) : Int) - 1) = -1 := rfl
      rw [hm1]
      clear HFF HBI HBE HX HK HKB HTV HMAP
      go_wp2_with fail
      refine (firstV_any wr _ xs 8 (HA.out.below HBR.out (Nat.le_refl _)) (by omega)).mono ?_
      rintro e w1 ⟨rfl, hb1⟩
      have HB1 := hide (HBR.out.trans (hb1.mono HBR.out.size))
      have HX1 := hide (HXR.out.below hb1 (Nat.le_refl _))
      clear hb1 HBR HXR
      go_wp2_with fail
      refine (zeroV_any w1 _ xs 8 (HA.out.below HB1.out (Nat.le_refl _)) (by omega)).mono ?_
      rintro e w2 ⟨rfl, hb2⟩
      have HB2 := hide (HB1.out.trans (hb2.mono HB1.out.size))
      have HX2 := hide (HX1.out.below hb2 (Nat.le_refl _))
      clear hb2 HB1 HX1
      go_wp2_with fail
      refine (vtext_any w2 _ xs 8 (HT.out.below HB2.out) (HA.out.below HB2.out (Nat.le_refl _)) (by decide) (by omega) hx8 HJN.out).mono ?_
      rintro e w3 ⟨rfl, hb3⟩
      have HB3 := hide (HB2.out.trans (hb3.mono HB2.out.size))
      have HX3 := hide (HX2.out.below hb3 (Nat.le_refl _))
      clear hb3 HB2 HX2
      go_wp2_with fail
      refine (vecText_any w3 _ xs 8 (HA.out.below HB3.out (Nat.le_refl _)) (by decide) hx8 HTX.out).mono ?_
      rintro e w4 ⟨rfl, hb4⟩
      have HB4 := hide (HB3.out.trans (hb4.mono HB3.out.size))
      have HX4 := hide (HX3.out.below hb4 (Nat.le_refl _))
      clear hb4 HB3 HX3 HTX HJN
      go_wp2
      go_loopw [27] (fun iv wr => ∃ i : Nat, i ≤ rss.length ∧ iv = .int .i64 i ∧ Hid (∀ rs ∈ rss.take i, faultV rs = 0) ∧ Below w4.heap.size w4 wr) (fun iv _ => rss.length - (intOf iv).toNat)
      case atStart => exact ⟨0, Nat.zero_le _, rfl, fun rs h => by simp at h, Below.refl _ _⟩
      case round =>
        obtain ⟨i, hi, rfl, HG, hbi⟩ := hrel
        have HBI := hide hbi
        clear hbi
        by_cases hil : i < rss.length
        · obtain ⟨_, _, e, -, hc⟩ := HM.out.below (HB4.out.trans (HBI.out.mono HB4.out.size)) (Nat.le_refl _)
          simp only [Value.slice.injEq, true_and] at e
          obtain ⟨rfl, rfl⟩ := e
          obtain ⟨mb, moff, rfl, lm, hc⟩ := hc (by omega)
          obtain ⟨u, cu, hu⟩ := hc i rss[i] (by simp [hil])
          have HU := hide hu
          have hrl := HR10.out _ (List.getElem_mem hil)
          have HTK : Hid (faultV rss[i] = 0 → ∀ rs ∈ rss.take (i + 1), faultV rs = 0) := fun h rs hz => by
            rw [List.take_succ_eq_append_getElem hil] at hz
            rcases List.mem_append.1 hz with h' | h'
            · exact HG.out rs h'
            · rw [List.mem_singleton] at h'; rw [h']; exact h
          clear hc hu
          generalize rss[i] = rs at *
          go_wp2_with fail
          refine (vecFault_any wr u rs HU.out (by omega)).mono ?_
          rintro e w5 ⟨rfl, hb5⟩
          have HB5 := hide (HBI.out.trans (hb5.mono HBI.out.size))
          clear hb5 HBI
          rcases fault_pos rs with h0 | h0
          · have HG' := hide (HTK.out h0)
            rw [h0]
            clear h0 HTK HG
            go_wp2
            go_roundw
            case rel => exact ⟨i + 1, by omega, by go_num, HG', HB5.out⟩
            case measure => simp [intOf]; omega
          · have HBF := hide (HB4.out.trans (HB5.out.mono HB4.out.size))
            generalize faultV rs = f at *
            clear HTK HG
            go_wp2
            go_ret
            exact ⟨rfl, HBF.out⟩
        · obtain rfl : i = rss.length := by omega
          have HMN : Hid (MatN w (.slice mo rss.length mcap) (rss.map (·.map Raw.z)) 8) := HM.out.nums (fun rs h => HG.out rs (by rw [List.take_length]; exact h)) HR8.out
          have HZ8 : Hid (∀ zs ∈ rss.map (·.map Raw.z), zs.length ≤ 1000) := fun zs hz => by
            obtain ⟨rs, hrs, rfl⟩ := List.mem_map.1 hz
            rw [List.length_map]
            have := HR10.out rs hrs
            omega
          have hzlen : (rss.map (·.map Raw.z)).length = rss.length := List.length_map ..
          have HBW := hide (HB4.out.trans (HBI.out.mono HB4.out.size))
          have HXW := hide (HX4.out.below HBI.out (Nat.le_refl _))
          rw [← hzlen] at HMN
          clear HG HM HR8 HR10 HB4 HX4 HBI
          rw [← hzlen]
          generalize rss.map (·.map Raw.z) = zss at *
          have hz14 : zss.length ≤ 14 := by omega
          clear hzlen
          go_upto_region 43 with fail
          go_cut [28, 15] from 33 (fun vc ev wc => ((ev = .nilIface ∧ xs.length = zss.length ∧ (∀ zs ∈ zss, zs.length = N) ∧ VecN wc vc (combo xs zss N) 60) ∨ (ev = .iface 76 (.int .i64 6) ∧ vc = .slice none 0 0 ∧ (xs.length ≠ zss.length ∨ ∃ zs ∈ zss, zs.length ≠ N))) ∧ Below wr.heap.size wr wc)
          case first =>
            by_cases hok : xs.length = zss.length ∧ ∀ zs ∈ zss, zs.length = N
            · have HOK := hide hok
              clear hok
              go_wp2_with fail
              refine (combine_any wr _ _ xs zss N 8 8 (HA.out.below HBW.out (Nat.le_refl _)) (HMN.out.below HBW.out (Nat.le_refl _)) HOK.out.1 HOK.out.2 (by omega) (by omega) (by decide) (by decide)).mono ?_
              rintro e w6 ⟨P, rfl, hv⟩
              have HV := hide hv
              clear hv
              go_wp2
              go_meet
              case rel =>
                refine ⟨.inl ⟨rfl, HOK.out.1, HOK.out.2, ?_⟩, HV.out.below⟩
                have h1 := HV.out.vec
                rw [combo_len] at h1
                exact h1.mono (by omega)
            · have HNO : Hid (xs.length ≠ zss.length ∨ ∃ zs ∈ zss, zs.length ≠ N) := by
                by_cases h1 : xs.length = zss.length
                · refine .inr (Classical.byContradiction fun h2 => hok ⟨h1, fun zs hz => Classical.byContradiction fun h3 => h2 ⟨zs, hz, h3⟩⟩)
                · exact .inl h1
              clear hok
              go_wp2_with fail
              refine (combine_not wr _ _ xs zss N 8 8 (HA.out.below HBW.out (Nat.le_refl _)) (HMN.out.below HBW.out (Nat.le_refl _)) (by omega) HNO.out).mono ?_
              rintro e w6 ⟨rfl, hb6⟩
              have HB6 := hide hb6
              clear hb6
              go_wp2
              go_meet
              case rel => exact ⟨.inr ⟨rfl, rfl, HNO.out⟩, HB6.out⟩
          case rest =>
          obtain ⟨hout, hb6⟩ := hcut
          apply_assumption
          exact vecSays_F w _ _ _ _ _ _ _ xs ys zss N (HBW.out.trans (hb6.mono HBW.out.size)) HA.out (by rw [← hN] at *; exact HB.out) hN hN8 hx8 HMN.out (by omega) (HXW.out.below hb6 (Nat.le_refl _)) HZ8.out hout _ _ _ _ _ _ _ _ _ _ _ _ _ _ _ _ _ _ _ _ _ _ _ _ _ _ _ _ _ _ _ _ _ _ _ _ _ _ _ _ _ _ _ _ _ _ _ _ _ _ _ _ _ _ _ _ _ _ _ _ _ _ _ _ _ _ _ _ _ _ _ _ _ _ _ _ _ _ _ _ _ _ _ _ _ _ _ _ _ _ _ _ _ _ _ _ _ _ _ _ _ _ _ _ _ _ _ _ _ _ _ _ _ _ _ _ _ _ _ _ _ _ _ _ _ _ _ _ _ _ _ _ _ _ _ _ _ _ _ _ _ _ _ _ _ _ _ _ _ _ _ _ _ _ _ _ _ _ _ _ _ _ _ _ _ _ _ _ _ _ _ _ _ _ _ _ _ _ _ _ _ _ _ _ _ _ _ _ _ _ _ _ _ _ _ _ _ _ _ _ _ _ _ _ _ _ _ _ _ _ _ _ _ _ _ _ _ _ _ _ _ _ _ _ _ _ _ _ _ _ _ _ _ _ _ _ _ _ _ _ _ _ _ _ _ _ _ _ _ _ _ _ _ _ _ _ _ _ _ _ _ _ _ _ _ _ _ _ _ _ _ _ _ _ _ _ _ _ _ _ _ _ _ _ _ _ _ _ _ _ _ _ _ _ _ _ _ _ _ _ _ _ _ _ _ _ _ _ _ _ _ _ _ _ _ _ _ _ _ _ _ _ _ _ _ _ _ _ _ _ _ _ _ _ _ _ _ _ _ _ _ _ _ _ _ _ _ _ _ _ _ _ _ _ _ _ _ _ _ _ _ _ _
    · obtain ⟨k, rfl⟩ : ∃ k, k0 = k + 1 := ⟨k0 - 1, by omega⟩
      have hki : ((k + 1 : Nat) : Int) - 1 = (k : Int) := by omega
      rw [hki]
      have hkl : k < xs.length := by omega
      have hbw := HBI.out
      obtain ⟨lt0, tn, tO, tl', tc, a0, a1, nt⟩ := (show VecN wr (.slice (some ⟨tb, toff, none⟩) (xs.map (z * ·)).length tcap) (xs.map (z * ·)) 16 by rw [hlt]; exact HTV.out.below hbw (Nat.le_refl _)).at k (by omega)
      rw [HMAP.out k hkl] at nt
      obtain ⟨_, _, e, lx, xu, a4, hxr⟩ := (HX.out.below hbw (Nat.le_refl _)).at 0 (by simp)
      simp only [Value.slice.injEq, Option.some.injEq, Addr.mk.injEq, and_true] at e
      obtain ⟨rfl, -, rfl⟩ := e
      obtain ⟨x0b, x0c, e2, lx0, ps, po, pl, pc, a5, a6, nx⟩ := RowR.at hxr k (by exact hkl)
      rw [e2] at a4
      have a4' : wr.cell? ⟨xb, 0, none⟩ = some (.slice (some ⟨x0b, 0, none⟩) xs.length x0c) := a4
      have HKW := hide (HKB.out.later hbw (by omega))
      obtain ⟨a2, a3, -, -⟩ := HKW.out
      have lk : w.heap.size < wr.heap.size := Nat.lt_of_lt_of_le hks hbw.size
      have NT := hide nt; have NX : Hid (NumR wr (.agg #[.int .i64 ps, .slice po pl pc]) (xs.getD k 0) 24) := nx
      have HSG := hide nx.sign0
      have HHIT := hide (firstFrom_hit xs k hkl)
      have HMIS := hide (firstFrom_miss xs k hkl)
      have HBW := hide (HBE.out.trans (HBI.out.mono HBE.out.size))
      clear nt nx hxr hbw a4 e2
      have a4 := a4'
      clear a4'
      have HSG' : Hid (ps = 0 ↔ xs.getD k 0 = 0) := HSG.out
      clear HSG
      generalize xs.getD k 0 = x at *
      have tok1 : True := trivial
      have tok2 : True := trivial
      have tok3 : True := trivial
      have tok4 : True := trivial
      have hll : ((xs.length : Int) != (xs.length : Int)) = false := by simp
      go_wp2_with fail
      go_region_held3 (fun w' => w'.cell? ⟨tb, toff + k * 2, none⟩ = some (.bool tn) ∧ w'.cell? ⟨tb, toff + k * 2 + 1, none⟩ = some (.slice tO tl' tc) ∧ w'.cell? ⟨w.heap.size, 0, none⟩ = some (.bool kn) ∧ w'.cell? ⟨w.heap.size, 1, none⟩ = some (.slice ko kl kc) ∧ w'.cell? ⟨xb, 0, none⟩ = some (.slice (some ⟨x0b, 0, none⟩) xs.length x0c) ∧ w'.cell? ⟨x0b, k * 2, none⟩ = some (.int .i64 ps) ∧ w'.cell? ⟨x0b, k * 2 + 1, none⟩ = some (.slice po pl pc)) (go_keep)
        (first
          | (go_at_call 28; have _t := tok1; refine (from_any _ _ z 8 (HK.out.below HBW.out.drew (Nat.le_refl _)) (by decide)).mono ?_; rintro e w2 ⟨r2, rfl, hr2, hb2⟩; have HR2 := hide hr2; have b0 := (hb2.cell (p := ⟨tb, toff + k * 2, none⟩) lt0).trans a0; have b1 := (hb2.cell (p := ⟨tb, toff + k * 2 + 1, none⟩) lt0).trans a1; have b2 := (hb2.cell (p := ⟨w.heap.size, 0, none⟩) lk).trans a2; have b3 := (hb2.cell (p := ⟨w.heap.size, 1, none⟩) lk).trans a3; have b4 := (hb2.cell (p := ⟨xb, 0, none⟩) lx).trans a4; have b5 := (hb2.cell (p := ⟨x0b, k * 2, none⟩) lx0).trans a5; have b6 := (hb2.cell (p := ⟨x0b, k * 2 + 1, none⟩) lx0).trans a6; have NT2 := hide (NT.out.below (drewed hb2) (Nat.le_refl _)); have NX2 := hide (NX.out.below (drewed hb2) (Nat.le_refl _)); have HB2 := hide (HBI.out.trans ((drewed hb2).mono HBI.out.size)); have hs2 := hb2.size; clear hr2 hb2 tok1 HKW)
          | (go_at_call 27; have _t := tok2; refine (times_any _ _ _ z x 24 24 (by exact HR2.out) (by exact NX2.out) (by decide) (by decide)).mono ?_; rintro e w3 ⟨r3, rfl, hr3, hb3⟩; have HR3 := hide hr3; have c0 := (hb3.cell (p := ⟨tb, toff + k * 2, none⟩) (Nat.lt_of_lt_of_le lt0 hs2)).trans b0; have c1 := (hb3.cell (p := ⟨tb, toff + k * 2 + 1, none⟩) (Nat.lt_of_lt_of_le lt0 hs2)).trans b1; have c2 := (hb3.cell (p := ⟨w.heap.size, 0, none⟩) (Nat.lt_of_lt_of_le lk hs2)).trans b2; have c3 := (hb3.cell (p := ⟨w.heap.size, 1, none⟩) (Nat.lt_of_lt_of_le lk hs2)).trans b3; have c4 := (hb3.cell (p := ⟨xb, 0, none⟩) (Nat.lt_of_lt_of_le lx hs2)).trans b4; have c5 := (hb3.cell (p := ⟨x0b, k * 2, none⟩) (Nat.lt_of_lt_of_le lx0 hs2)).trans b5; have c6 := (hb3.cell (p := ⟨x0b, k * 2 + 1, none⟩) (Nat.lt_of_lt_of_le lx0 hs2)).trans b6; have NT3 := hide (NT2.out.below hb3 (Nat.le_refl _)); have HB3 := hide (HB2.out.trans (hb3.mono HB2.out.size)); have hs3 := Nat.le_trans hs2 hb3.size; clear hr3 hb3 tok2 NT2 NX2 HR2)
          | (go_at_call 23; have _t := tok3; refine (intR_any _ _ (z * x) 49 (by exact HR3.out)).mono ?_; rintro e w4 ⟨r4, rfl, hr4, hb4⟩; have HR4 := hide hr4; have d0 := (hb4.cell (p := ⟨tb, toff + k * 2, none⟩) (Nat.lt_of_lt_of_le lt0 hs3)).trans c0; have d1 := (hb4.cell (p := ⟨tb, toff + k * 2 + 1, none⟩) (Nat.lt_of_lt_of_le lt0 hs3)).trans c1; have d2 := (hb4.cell (p := ⟨w.heap.size, 0, none⟩) (Nat.lt_of_lt_of_le lk hs3)).trans c2; have d3 := (hb4.cell (p := ⟨w.heap.size, 1, none⟩) (Nat.lt_of_lt_of_le lk hs3)).trans c3; have d4 := (hb4.cell (p := ⟨xb, 0, none⟩) (Nat.lt_of_lt_of_le lx hs3)).trans c4; have d5 := (hb4.cell (p := ⟨x0b, k * 2, none⟩) (Nat.lt_of_lt_of_le lx0 hs3)).trans c5; have d6 := (hb4.cell (p := ⟨x0b, k * 2 + 1, none⟩) (Nat.lt_of_lt_of_le lx0 hs3)).trans c6; have NT4 := hide (NT3.out.below hb4 (Nat.le_refl _)); have HB4 := hide (HB3.out.trans (hb4.mono HB3.out.size)); have hs4 := Nat.le_trans hs3 hb4.size; clear hr4 hb4 tok3 NT3 HR3)
          | (go_at_call 22; have _t := tok4; refine (sameInt_any _ _ _ (z * x) (z * x) 16 49 (by exact NT4.out) (by exact HR4.out)).mono ?_; rintro e w5 ⟨rfl, hb5⟩; rw [decide_eq_true rfl]; have f0 := (hb5.cell (p := ⟨tb, toff + k * 2, none⟩) (Nat.lt_of_lt_of_le lt0 hs4)).trans d0; have f1 := (hb5.cell (p := ⟨tb, toff + k * 2 + 1, none⟩) (Nat.lt_of_lt_of_le lt0 hs4)).trans d1; have f2 := (hb5.cell (p := ⟨w.heap.size, 0, none⟩) (Nat.lt_of_lt_of_le lk hs4)).trans d2; have f3 := (hb5.cell (p := ⟨w.heap.size, 1, none⟩) (Nat.lt_of_lt_of_le lk hs4)).trans d3; have f4 := (hb5.cell (p := ⟨xb, 0, none⟩) (Nat.lt_of_lt_of_le lx hs4)).trans d4; have f5 := (hb5.cell (p := ⟨x0b, k * 2, none⟩) (Nat.lt_of_lt_of_le lx0 hs4)).trans d5; have f6 := (hb5.cell (p := ⟨x0b, k * 2 + 1, none⟩) (Nat.lt_of_lt_of_le lx0 hs4)).trans d6; have HB5 := hide (HB4.out.trans (hb5.mono HB4.out.size)); have hs5 := Nat.le_trans hs4 hb5.size; clear hb5 tok4 NT4 HR4))
      by_cases hps : ps = 0
      · subst hps
        have HFF := hide (HMIS.out (HSG'.out.1 rfl))
        rw [← HFF.out]
        clear HMIS HHIT HSG' NT NX a0 a1 a2 a3 b0 b1 b2 b3 b4 b5 b6 c0 c1 c2 c3 c4 c5 c6 d0 d1 d2 d3 d4 d5 d6
        go_wp2
        go_roundw
        case rel => exact ⟨k, by omega, rfl, rfl, HB5.out⟩
        case measure => simp [intOf]
      · have HFF := hide (HHIT.out (fun h => hps (HSG'.out.2 h)))
        have hpn : (ps == 0) = false := by rw [beq_eq_false_iff_ne]; exact hps
        have hpn2 : (ps != 0) = true := by rw [bne_iff_ne]; exact hps
        clear HMIS HHIT HSG' NT NX a0 a1 a2 a3 b0 b1 b2 b3 b4 b5 b6 c0 c1 c2 c3 c4 c5 c6 d0 d1 d2 d3 d4 d5 d6
        go_wp2
        go_roundw
        case rel => exact ⟨k, by omega, rfl, by rw [HFF.out], HB5.out⟩
        case measure => simp [intOf]

end Go.Proofs.YtklhmnejmbgmjabGreatDoor
