/- VecSays: what was read; what is wrong; sums and differences. -/
import Derived.Test.YtklhmnejmbgmjabGreatDoorVSDA
import Derived.Test.YtklhmnejmbgmjabGreatDoorVSDB
namespace Go.Proofs.YtklhmnejmbgmjabGreatDoor
open Go.RowKit Limbs Digs

theorem two_rows (w : World) (va vb : Value) (xs ys : List Int) (n : Nat) (ha : VecN w va xs n) (hb : VecN w vb ys n) : MatN (w.alloc (.cells #[va, vb] 23)) (.slice (some ⟨w.heap.size, 0, none⟩) 2 2) [xs, ys] n := by
  have hbA : Below w.heap.size w (w.alloc (.cells #[va, vb] 23)) := (Below.refl _ _).alloc (Nat.le_refl _) _
  refine ⟨_, _, rfl, Nat.le_refl _, fun _ => ⟨_, _, rfl, by simp, fun i zs hi => ?_⟩⟩
  have hlt := (List.getElem?_eq_some_iff.1 hi).1
  match i, hlt with
  | 0, _ =>
    simp only [List.getElem?_cons_zero, Option.some.injEq] at hi
    subst hi
    exact ⟨va, by rw [World.cell?_alloc_new]; rfl, ha.below hbA (Nat.le_refl _)⟩
  | 1, _ =>
    simp only [List.getElem?_cons_succ, List.getElem?_cons_zero, Option.some.injEq] at hi
    subst hi
    exact ⟨vb, by rw [World.cell?_alloc_new]; rfl, hb.below hbA (Nat.le_refl _)⟩

theorem fault_le (rs : List Raw) : 0 ≤ faultV rs ∧ faultV rs ≤ 6 := by
  unfold faultV faulty
  repeat' split
  all_goals omega

theorem faulty_le (b : Bool) : 0 ≤ faulty b ∧ faulty b ≤ 3 ∧ (faulty b = 0 ↔ b = true) := by
  cases b <;> simp [faulty]

set_option linter.unusedSimpArgs false in
set_option maxRecDepth 100000 in
set_option maxHeartbeats 6400000 in
theorem vecSays_C (w W : World) (va vb vm pv ev rv fv : Value) (kn : Bool) (ko : Option Addr) (kc : Nat) (kz : List Int) (ras rbs : List Raw) (qs : List Int) (rss : List (List Raw)) (hbe : Below w.heap.size w W) (ht : Tab w) (hA : VecL w va ras) (hB : VecL w vb rbs) (ha8 : ∀ r ∈ ras, r.zs.length ≤ 8) (hb8 : ∀ r ∈ rbs, r.zs.length ≤ 8) (hM : MatL w vm rss) (hr14 : rss.length ≤ 14) (hr10 : ∀ rs ∈ rss, rs.length ≤ 10) (hr8 : ∀ rs ∈ rss, ∀ r ∈ rs, r.zs.length ≤ 8) (hK : Lim w (.slice ko kz.length kc) kz) (hk8 : kz.length ≤ 8) (hkb : Box W w.heap.size (.bool kn) (.slice ko kz.length kc)) (hks : w.heap.size < W.heap.size) (hsame : ∀ w, Calls Tryz.prog 12 #[ev, fv] w fun e w' => e = .returned (.bool true) ∧ w' = w) (hpv : VecN W pv qs 400) (hrv : VecN W rv qs 400) (hq8 : qs.length ≤ 1000) (sl2 sl4 sl5 sl6 sl8 sl9 sl10 sl11 sl18 sl19 sl20 sl21 sl22 sl23 sl24 sl25 sl26 sl27 sl28 sl29 sl30 sl31 sl32 sl33 sl34 sl35 sl36 sl37 sl38 sl39 sl40 sl41 sl42 sl43 sl44 sl45 sl46 sl47 sl48 sl49 sl50 sl51 sl52 sl53 sl54 sl55 sl56 sl57 sl58 sl59 sl60 sl61 sl62 sl63 sl64 sl65 sl66 sl67 sl68 sl69 sl70 sl71 sl72 sl73 sl74 sl75 sl76 sl77 sl78 sl79 sl80 sl81 sl82 sl83 sl84 sl85 sl86 sl87 sl88 sl89 sl90 sl91 sl92 sl93 sl94 sl95 sl96 sl97 sl98 sl99 sl100 sl101 sl102 sl103 sl104 sl105 sl106 sl107 sl108 sl109 sl110 sl111 sl112 sl113 sl114 sl115 sl116 sl117 sl118 sl119 sl120 sl121 sl122 sl123 sl124 sl125 sl126 sl127 sl128 sl129 sl130 sl131 sl132 sl133 sl134 sl135 sl136 sl137 sl138 sl139 sl140 sl141 sl142 sl143 sl144 sl145 sl146 sl147 sl148 sl149 sl150 sl151 sl152 sl153 sl154 sl155 sl156 sl157 sl158 sl159 sl160 sl161 sl162 sl163 sl164 sl165 sl166 sl167 sl168 sl169 sl170 sl171 sl172 sl173 sl174 sl175 sl176 sl177 sl178 sl179 sl180 sl181 sl182 sl183 sl184 sl185 sl186 sl187 sl188 sl189 sl190 sl191 sl192 sl193 sl194 sl195 sl196 sl197 sl198 sl199 sl200 sl201 sl202 sl203 sl204 sl205 sl206 sl207 sl208 sl209 sl210 sl211 sl212 sl213 sl214 sl215 sl216 sl217 sl218 sl219 sl220 sl221 sl222 sl223 sl224 sl225 sl226 sl227 sl228 sl229 sl230 sl231 sl232 sl233 sl234 sl235 sl236 sl237 sl238 sl239 sl240 sl241 sl242 sl243 sl244 sl245 sl246 sl247 sl248 sl249 sl250 sl251 sl252 sl253 sl254 sl255 sl256 sl257 sl258 sl259 sl260 sl261 sl262 sl263 sl264 sl265 sl266 sl267 sl268 sl269 sl270 sl271 sl272 sl273 sl274 sl275 sl276 sl277 sl278 sl279 sl280 sl281 sl282 sl283 sl284 sl285 sl286 sl287 sl288 sl289 sl290 sl291 sl292 sl293 sl294 sl295 sl296 sl297 sl298 sl299 sl300 sl301 sl302 sl303 sl304 sl305 sl306 sl307 sl308 sl309 sl310 sl311 sl312 sl313 sl314 sl315 sl316 sl317 sl318 sl319 sl320 sl321 sl322 sl323 sl324 sl325 sl326 sl327 sl328 sl329 sl330 sl331 sl332 sl333 sl334 sl335 sl336 sl337 sl338 sl339 sl340 sl341 sl342 sl343 sl344 sl345 sl346 sl347 sl348 sl349 sl350 sl351 sl352 sl353 sl354 sl355 sl356 sl357 sl358 sl359 sl360 sl361 sl362 sl363 sl364 sl365 sl366 sl367 sl368 sl369 : Value) :
    (Code.tl (Code.tl (Code.tl (Code.tl (Code.tl (Code.tl (Code.tl (Code.tl ((Tryz.f3.body).getD .skip))))))))).wp Tryz.prog (bodyPost Tryz.prog Tryz.f3 (fun e w' => e = .returned (.bool true) ∧ Below w.heap.size w w')) ⟨#[va, vb, sl2, vm, sl4, sl5, sl6, .pointer (some ⟨w.heap.size, 0, none⟩), sl8, sl9, sl10, sl11, .int .i64 (faultV ras), .int .i64 (faultV rbs), pv, ev, rv, fv, sl18, sl19, sl20, sl21, sl22, sl23, sl24, sl25, sl26, sl27, sl28, sl29, sl30, sl31, sl32, sl33, sl34, sl35, sl36, sl37, sl38, sl39, sl40, sl41, sl42, sl43, sl44, sl45, sl46, sl47, sl48, sl49, sl50, sl51, sl52, sl53, sl54, sl55, sl56, sl57, sl58, sl59, sl60, sl61, sl62, sl63, sl64, sl65, sl66, sl67, sl68, sl69, sl70, sl71, sl72, sl73, sl74, sl75, sl76, sl77, sl78, sl79, sl80, sl81, sl82, sl83, sl84, sl85, sl86, sl87, sl88, sl89, sl90, sl91, sl92, sl93, sl94, sl95, sl96, sl97, sl98, sl99, sl100, sl101, sl102, sl103, sl104, sl105, sl106, sl107, sl108, sl109, sl110, sl111, sl112, sl113, sl114, sl115, sl116, sl117, sl118, sl119, sl120, sl121, sl122, sl123, sl124, sl125, sl126, sl127, sl128, sl129, sl130, sl131, sl132, sl133, sl134, sl135, sl136, sl137, sl138, sl139, sl140, sl141, sl142, sl143, sl144, sl145, sl146, sl147, sl148, sl149, sl150, sl151, sl152, sl153, sl154, sl155, sl156, sl157, sl158, sl159, sl160, sl161, sl162, sl163, sl164, sl165, sl166, sl167, sl168, sl169, sl170, sl171, sl172, sl173, sl174, sl175, sl176, sl177, sl178, sl179, sl180, sl181, sl182, sl183, sl184, sl185, sl186, sl187, sl188, sl189, sl190, sl191, sl192, sl193, sl194, sl195, sl196, sl197, sl198, sl199, sl200, sl201, sl202, sl203, sl204, sl205, sl206, sl207, sl208, sl209, sl210, sl211, sl212, sl213, sl214, sl215, sl216, sl217, sl218, sl219, sl220, sl221, sl222, sl223, sl224, sl225, sl226, sl227, sl228, sl229, sl230, sl231, sl232, sl233, sl234, sl235, sl236, sl237, sl238, sl239, sl240, sl241, sl242, sl243, sl244, sl245, sl246, sl247, sl248, sl249, sl250, sl251, sl252, sl253, sl254, sl255, sl256, sl257, sl258, sl259, sl260, sl261, sl262, sl263, sl264, sl265, sl266, sl267, sl268, sl269, sl270, sl271, sl272, sl273, sl274, sl275, sl276, sl277, sl278, sl279, sl280, sl281, sl282, sl283, sl284, sl285, sl286, sl287, sl288, sl289, sl290, sl291, sl292, sl293, sl294, sl295, sl296, sl297, sl298, sl299, sl300, sl301, sl302, sl303, sl304, sl305, sl306, sl307, sl308, sl309, sl310, sl311, sl312, sl313, sl314, sl315, sl316, sl317, sl318, sl319, sl320, sl321, sl322, sl323, sl324, sl325, sl326, sl327, sl328, sl329, sl330, sl331, sl332, sl333, sl334, sl335, sl336, sl337, sl338, sl339, sl340, sl341, sl342, sl343, sl344, sl345, sl346, sl347, sl348, sl349, sl350, sl351, sl352, sl353, sl354, sl355, sl356, sl357, sl358, sl359, sl360, sl361, sl362, sl363, sl364, sl365, sl366, sl367, sl368, sl369], []⟩ W := by
  simp only [Code.tl, Tryz.f3, Option.getD_some]
  have HA := hide hA; have HB := hide hB; have HM := hide hM; have HBE := hide hbe; have HT := hide ht; have HR10 := hide hr10; have HR8 := hide hr8; have HK := hide hK; have HKB := hide hkb; have HPV := hide hpv; have HRV := hide hrv; have HSM := hide hsame; have HA8 := hide ha8; have HB8 := hide hb8
  obtain ⟨ao, acap, rfl, -, -⟩ := hA
  obtain ⟨bo, bcap, rfl, -, -⟩ := hB
  clear hM hbe ht hr10 hr8 hK hkb hpv hrv hsame ha8 hb8
  go_wp2_with fail
  refine (HSM.out W).mono ?_
  rintro e w1 ⟨rfl, rfl⟩
  go_wp2_with fail
  refine (sameVec_any w1 pv rv qs qs 400 400 HPV.out HRV.out (by omega) true (by simp)).mono ?_
  rintro e w2 ⟨rfl, hb2⟩
  have HB2 := hide (HBE.out.trans (hb2.mono HBE.out.size))
  have HK2 := hide (HKB.out.later hb2 hks)
  have lk2 : w.heap.size < w2.heap.size := Nat.lt_of_lt_of_le hks hb2.size
  clear hb2 HBE HKB HPV HRV HSM hks
  obtain ⟨kk0, kk1, -, -⟩ := HK2.out
  have hfa := fault_le ras
  have hfb := fault_le rbs
  have hfk := faulty_le (isNum kn kz)
  have HFA := hide (@fault_zero ras)
  have HFB := hide (@fault_zero rbs)
  by_cases hok : faultV ras = 0 ∧ faultV rbs = 0 ∧ isNum kn kz = true
  · obtain ⟨h1, h2, h3⟩ := hok
    obtain ⟨hx1', hx8', hxn⟩ := HFA.out h1
    obtain ⟨hy1', hy8', hyn⟩ := HFB.out h2
    have HAN := hide (HA.out.nums hxn HA8.out)
    have HBN := hide (HB.out.nums hyn HB8.out)
    have HKN := hide (NumL.of_isNum h3 HK.out hk8)
    have HKF : Hid (faulty (isNum kn kz) = 0) := hfk.2.2.2 h3
    have hxl : (ras.map Raw.z).length = ras.length := List.length_map ..
    have hyl : (rbs.map Raw.z).length = rbs.length := List.length_map ..
    have hx1 : 1 ≤ (ras.map Raw.z).length := by omega
    have hx8 : (ras.map Raw.z).length ≤ 8 := by omega
    have hy8 : (rbs.map Raw.z).length ≤ 8 := by omega
    rw [h1, h2]
    rw [← hxl] at HAN
    rw [← hyl] at HBN
    rw [← hxl, ← hyl]
    clear h1 h2 h3 hfa hfb hfk HFA HFB HA HB hx1' hx8' hxn hy1' hy8' hyn HA8 HB8 hxl hyl
    generalize ras.map Raw.z = xs at *
    generalize rbs.map Raw.z = ys at *
    generalize sg kn (lv kz) = z at *
    go_wp2_with fail
    refine (intFault_any w2 kn _ kz (HK.out.below HB2.out (Nat.le_refl _))).mono ?_
    rintro e w3 ⟨rfl, hb3⟩
    rw [HKF.out]
    have HB3 := hide (HB2.out.trans (hb3.mono HB2.out.size))
    have HK3 := hide (HK2.out.later hb3 lk2)
    have lk3 : w.heap.size < w3.heap.size := Nat.lt_of_lt_of_le lk2 hb3.size
    clear hb3 HB2 HK2 lk2 HKF HK kk0 kk1
    go_wp2_with fail
    have hbA : Below w3.heap.size w3 (w3.alloc (.cells #[.slice ao xs.length acap, .slice bo ys.length bcap] 23)) := (Below.refl _ _).alloc (Nat.le_refl _) _
    refine (fromMat_any _ _ [xs, ys] 8 (two_rows w3 _ _ xs ys 8 (HAN.out.below HB3.out (Nat.le_refl _)) (HBN.out.below HB3.out (Nat.le_refl _))) (by decide) (by simp) (fun zs hz => by simp only [List.mem_cons, List.mem_nil_iff, or_false] at hz; rcases hz with rfl | rfl <;> omega)).mono ?_
    rintro e w4 ⟨vx, rfl, hvx, hb4⟩
    have HX4 : Hid (MatR w4 vx [xs, ys] 24) := hvx
    have hb4' := hbA.trans (hb4.mono hbA.size)
    have HB4 := hide (HB3.out.trans (hb4'.mono HB3.out.size))
    have HK4 := hide (HK3.out.later hb4' lk3)
    have lk4 : w.heap.size < w4.heap.size := Nat.lt_of_lt_of_le lk3 hb4'.size
    clear hvx hb4 hb4' hbA HB3 HK3 lk3
    by_cases hl : xs.length = ys.length
    · have HL := hide hl
      clear hl
      go_wp2_with fail
      refine (addV_any w4 _ _ xs ys 8 (HAN.out.below HB4.out (Nat.le_refl _)) (HBN.out.below HB4.out (Nat.le_refl _)) HL.out (by omega) (by decide)).mono ?_
      rintro e w5 ⟨P1, rfl, hv1⟩
      have HV1 := hide hv1; have HB5 := hide hv1.below; clear hv1
      go_upto_region 16 with fail
      go_cut [21, 22] from 33 (fun v e wc => e = .nilIface ∧ VecN wc v (List.zipWith (fun x y => x - y) xs ys) 9 ∧ Below w5.heap.size w5 wc)
      case first =>
        go_wp2_with fail
        refine (subV_any w5 _ _ xs ys 8 (HAN.out.below (HB4.out.trans (HB5.out.mono HB4.out.size)) (Nat.le_refl _)) (HBN.out.below (HB4.out.trans (HB5.out.mono HB4.out.size)) (Nat.le_refl _)) HL.out (by omega) (by decide)).mono ?_
        rintro e w6 ⟨P2, rfl, hv2⟩
        have HV2 := hide hv2; clear hv2
        go_wp2
        go_meet
        case rel => exact ⟨rfl, by have h := HV2.out.vec; rwa [zip_len _ _ _ HL.out] at h, HV2.out.below⟩
      case rest =>
      obtain ⟨rfl, hvd, hb6⟩ := hcut
      have hbT := HB5.out.trans (hb6.mono HB5.out.size)
      apply_assumption
      exact vecSays_DA w _ _ _ _ _ _ _ kn ko kz.length kc z xs ys rss (HB4.out.trans (hbT.mono HB4.out.size)) HT.out HAN.out HBN.out hy8 hx1 hx8 HM.out hr14 HR10.out HR8.out HKN.out (HK4.out.later hbT lk4) (Nat.lt_of_lt_of_le lk4 hbT.size) (HX4.out.below hbT (Nat.le_refl _)) HL.out ((by have h := HV1.out.vec; rwa [zip_len _ _ _ HL.out] at h : VecN w5 (.slice (some ⟨P1, 0, none⟩) xs.length xs.length) (List.zipWith (fun x y => x + y) xs ys) 9).below hb6 (Nat.le_refl _)) hvd _ _ _ _ _ _ _ _ _ _ _ _ _ _ _ _ _ _ _ _ _ _ _ _ _ _ _ _ _ _ _ _ _ _ _ _ _ _ _ _ _ _ _ _ _ _ _ _ _ _ _ _ _ _ _ _ _ _ _ _ _ _ _ _ _ _ _ _ _ _ _ _ _ _ _ _ _ _ _ _ _ _ _ _ _ _ _ _ _ _ _ _ _ _ _ _ _ _ _ _ _ _ _ _ _ _ _ _ _ _ _ _ _ _ _ _ _ _ _ _ _ _ _ _ _ _ _ _ _ _ _ _ _ _ _ _ _ _ _ _ _ _ _ _ _ _ _ _ _ _ _ _ _ _ _ _ _ _ _ _ _ _ _ _ _ _ _ _ _ _ _ _ _ _ _ _ _ _ _ _ _ _ _ _ _ _ _ _ _ _ _ _ _ _ _ _ _ _ _ _ _ _ _ _ _ _ _ _ _ _ _ _ _ _ _ _ _ _ _ _ _ _ _ _ _ _ _ _ _ _ _ _ _ _ _ _ _ _ _ _ _ _ _ _ _ _ _ _ _ _ _ _ _ _ _ _ _ _ _ _ _ _ _ _ _ _ _ _ _ _ _ _ _ _ _ _ _ _ _ _ _ _ _ _ _ _ _ _ _ _ _ _ _ _ _ _ _ _ _ _ _ _ _ _ _ _ _ _ _ _ _ _ _ _ _ _ _ _ _ _ _ _ _ _ _ _ _ _ _ _ _ _ _ _ _ _ _ _ _ _ _ _ _ _ _ _ _ _ _ _ _ _ _ _ _ _ _ _ _ _ _
    · have HL := hide hl
      clear hl
      go_wp2_with fail
      refine (addV_not w4 _ _ xs ys 8 8 (HAN.out.below HB4.out (Nat.le_refl _)) (HBN.out.below HB4.out (Nat.le_refl _)) HL.out).mono ?_
      rintro e w5 ⟨rfl, hb5⟩
      have HB5 := hide hb5; clear hb5
      go_upto_region 16 with fail
      go_cut [21, 22] from 33 (fun v e wc => v = .slice none 0 0 ∧ e = .iface 76 (.int .i64 6) ∧ Below w5.heap.size w5 wc)
      case first =>
        go_wp2_with fail
        refine (subV_not w5 _ _ xs ys 8 8 (HAN.out.below (HB4.out.trans (HB5.out.mono HB4.out.size)) (Nat.le_refl _)) (HBN.out.below (HB4.out.trans (HB5.out.mono HB4.out.size)) (Nat.le_refl _)) HL.out).mono ?_
        rintro e w6 ⟨rfl, hb6⟩
        have HB6 := hide hb6; clear hb6
        go_wp2
        go_meet
        case rel => exact ⟨rfl, rfl, HB6.out⟩
      case rest =>
      obtain ⟨rfl, rfl, hb6⟩ := hcut
      have hbT := HB5.out.trans (hb6.mono HB5.out.size)
      apply_assumption
      exact vecSays_DB w _ _ _ _ _ kn ko kz.length kc z xs ys rss (HB4.out.trans (hbT.mono HB4.out.size)) HT.out HAN.out HBN.out hy8 hx1 hx8 HM.out hr14 HR10.out HR8.out HKN.out (HK4.out.later hbT lk4) (Nat.lt_of_lt_of_le lk4 hbT.size) (HX4.out.below hbT (Nat.le_refl _)) HL.out _ _ _ _ _ _ _ _ _ _ _ _ _ _ _ _ _ _ _ _ _ _ _ _ _ _ _ _ _ _ _ _ _ _ _ _ _ _ _ _ _ _ _ _ _ _ _ _ _ _ _ _ _ _ _ _ _ _ _ _ _ _ _ _ _ _ _ _ _ _ _ _ _ _ _ _ _ _ _ _ _ _ _ _ _ _ _ _ _ _ _ _ _ _ _ _ _ _ _ _ _ _ _ _ _ _ _ _ _ _ _ _ _ _ _ _ _ _ _ _ _ _ _ _ _ _ _ _ _ _ _ _ _ _ _ _ _ _ _ _ _ _ _ _ _ _ _ _ _ _ _ _ _ _ _ _ _ _ _ _ _ _ _ _ _ _ _ _ _ _ _ _ _ _ _ _ _ _ _ _ _ _ _ _ _ _ _ _ _ _ _ _ _ _ _ _ _ _ _ _ _ _ _ _ _ _ _ _ _ _ _ _ _ _ _ _ _ _ _ _ _ _ _ _ _ _ _ _ _ _ _ _ _ _ _ _ _ _ _ _ _ _ _ _ _ _ _ _ _ _ _ _ _ _ _ _ _ _ _ _ _ _ _ _ _ _ _ _ _ _ _ _ _ _ _ _ _ _ _ _ _ _ _ _ _ _ _ _ _ _ _ _ _ _ _ _ _ _ _ _ _ _ _ _ _ _ _ _ _ _ _ _ _ _ _ _ _ _ _ _ _ _ _ _ _ _ _ _ _ _ _ _ _ _ _ _ _ _ _ _ _ _ _ _ _ _ _ _ _ _ _ _ _ _ _ _ _ _ _ _ _
  · have HP : Hid (0 < faultV ras + faultV rbs + faulty (isNum kn kz)) := by
      show (0 : Int) < _
      by_cases h1 : faultV ras = 0
      · by_cases h2 : faultV rbs = 0
        · have h3 : faulty (isNum kn kz) ≠ 0 := fun h => hok ⟨h1, h2, hfk.2.2.1 h⟩
          omega
        · omega
      · omega
    obtain ⟨hk0, hk3, -⟩ := hfk
    obtain ⟨ha0, ha6⟩ := hfa
    obtain ⟨hb0, hb6⟩ := hfb
    have HIF := hide (fun w' (h : Below w.heap.size w w') => intFault_any w' kn (.slice ko kz.length kc) kz (HK.out.below h (Nat.le_refl _)))
    clear hok HFA HFB HA8 HB8
    generalize faultV ras = fa at *
    generalize faultV rbs = fb at *
    generalize faulty (isNum kn kz) = fk at *
    go_wp2_with fail
    refine (HIF.out w2 HB2.out).mono ?_
    rintro e w3 ⟨rfl, hb3⟩
    have HB3 := hide (HB2.out.trans (hb3.mono HB2.out.size))
    have hpp : (0 : Int) < fa + fb + fk := HP.out
    clear hb3
    go_wp2
    go_ret
    exact ⟨rfl, HB3.out⟩

end Go.Proofs.YtklhmnejmbgmjabGreatDoor
