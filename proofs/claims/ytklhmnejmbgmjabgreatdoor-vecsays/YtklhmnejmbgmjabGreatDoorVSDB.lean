/- VecSays: sums and differences; multiples: not as many numbers in both. -/
import Derived.Test.YtklhmnejmbgmjabGreatDoorVSE
namespace Go.Proofs.YtklhmnejmbgmjabGreatDoor
open Go.RowKit Limbs Digs

set_option linter.unusedSimpArgs false in
set_option maxRecDepth 100000 in
set_option maxHeartbeats 6400000 in
theorem vecSays_DB (w W : World) (va vb vm vx : Value) (kn : Bool) (ko : Option Addr) (kl kc : Nat) (z : Int) (xs ys : List Int) (rss : List (List Raw)) (hbe : Below w.heap.size w W) (ht : Tab w) (hA : VecN w va xs 8) (hB : VecN w vb ys 8) (hy8 : ys.length ≤ 8) (hx1 : 1 ≤ xs.length) (hx8 : xs.length ≤ 8) (hM : MatL w vm rss) (hr14 : rss.length ≤ 14) (hr10 : ∀ rs ∈ rss, rs.length ≤ 10) (hr8 : ∀ rs ∈ rss, ∀ r ∈ rs, r.zs.length ≤ 8) (hK : NumL w (.agg #[.bool kn, .slice ko kl kc]) z 8) (hkb : Box W w.heap.size (.bool kn) (.slice ko kl kc)) (hks : w.heap.size < W.heap.size) (hX : MatR W vx [xs, ys] 24) (hl : xs.length ≠ ys.length) (sl2 sl4 sl5 sl6 sl8 sl9 sl10 sl11 sl12 sl13 sl14 sl15 sl16 sl17 sl23 sl24 sl25 sl26 sl27 sl28 sl29 sl30 sl31 sl32 sl33 sl34 sl35 sl36 sl37 sl38 sl39 sl40 sl41 sl42 sl43 sl44 sl45 sl46 sl47 sl48 sl49 sl50 sl51 sl52 sl53 sl54 sl55 sl56 sl57 sl58 sl59 sl60 sl61 sl62 sl63 sl64 sl65 sl66 sl67 sl68 sl69 sl70 sl71 sl72 sl73 sl74 sl75 sl76 sl77 sl78 sl79 sl80 sl81 sl82 sl83 sl84 sl85 sl86 sl87 sl88 sl89 sl90 sl91 sl92 sl93 sl94 sl95 sl96 sl97 sl98 sl99 sl100 sl101 sl102 sl103 sl104 sl105 sl106 sl107 sl108 sl109 sl110 sl111 sl112 sl113 sl114 sl115 sl116 sl117 sl118 sl119 sl120 sl121 sl122 sl123 sl124 sl125 sl126 sl127 sl128 sl129 sl130 sl131 sl132 sl133 sl134 sl135 sl136 sl137 sl138 sl139 sl140 sl141 sl142 sl143 sl144 sl145 sl146 sl147 sl148 sl149 sl150 sl151 sl152 sl153 sl154 sl155 sl156 sl157 sl158 sl159 sl160 sl161 sl162 sl163 sl164 sl165 sl166 sl167 sl168 sl169 sl170 sl171 sl172 sl173 sl174 sl175 sl176 sl177 sl178 sl179 sl180 sl181 sl182 sl183 sl184 sl185 sl186 sl187 sl188 sl189 sl190 sl191 sl192 sl193 sl194 sl195 sl196 sl197 sl198 sl199 sl200 sl201 sl202 sl203 sl204 sl205 sl206 sl207 sl208 sl209 sl210 sl211 sl212 sl213 sl214 sl215 sl216 sl217 sl218 sl219 sl220 sl221 sl222 sl223 sl224 sl225 sl226 sl227 sl228 sl229 sl230 sl231 sl232 sl233 sl234 sl235 sl236 sl237 sl238 sl239 sl240 sl241 sl242 sl243 sl244 sl245 sl246 sl247 sl248 sl249 sl250 sl251 sl252 sl253 sl254 sl255 sl256 sl257 sl258 sl259 sl260 sl261 sl262 sl263 sl264 sl265 sl266 sl267 sl268 sl269 sl270 sl271 sl272 sl273 sl274 sl275 sl276 sl277 sl278 sl279 sl280 sl281 sl282 sl283 sl284 sl285 sl286 sl287 sl288 sl289 sl290 sl291 sl292 sl293 sl294 sl295 sl296 sl297 sl298 sl299 sl300 sl301 sl302 sl303 sl304 sl305 sl306 sl307 sl308 sl309 sl310 sl311 sl312 sl313 sl314 sl315 sl316 sl317 sl318 sl319 sl320 sl321 sl322 sl323 sl324 sl325 sl326 sl327 sl328 sl329 sl330 sl331 sl332 sl333 sl334 sl335 sl336 sl337 sl338 sl339 sl340 sl341 sl342 sl343 sl344 sl345 sl346 sl347 sl348 sl349 sl350 sl351 sl352 sl353 sl354 sl355 sl356 sl357 sl358 sl359 sl360 sl361 sl362 sl363 sl364 sl365 sl366 sl367 sl368 sl369 : Value) :
    (Code.tl (Code.tl (Code.tl (Code.tl (Code.tl (Code.tl (Code.tl (Code.tl (Code.tl (Code.tl (Code.tl (Code.tl (Code.tl ((Tryz.f3.body).getD .skip)))))))))))))).wp Tryz.prog (bodyPost Tryz.prog Tryz.f3 (fun e w' => e = .returned (.bool true) ∧ Below w.heap.size w w')) ⟨#[va, vb, sl2, vm, sl4, sl5, sl6, .pointer (some ⟨w.heap.size, 0, none⟩), sl8, sl9, sl10, sl11, sl12, sl13, sl14, sl15, sl16, sl17, vx, .slice none 0 0, .iface 76 (.int .i64 6), .slice none 0 0, .iface 76 (.int .i64 6), sl23, sl24, sl25, sl26, sl27, sl28, sl29, sl30, sl31, sl32, sl33, sl34, sl35, sl36, sl37, sl38, sl39, sl40, sl41, sl42, sl43, sl44, sl45, sl46, sl47, sl48, sl49, sl50, sl51, sl52, sl53, sl54, sl55, sl56, sl57, sl58, sl59, sl60, sl61, sl62, sl63, sl64, sl65, sl66, sl67, sl68, sl69, sl70, sl71, sl72, sl73, sl74, sl75, sl76, sl77, sl78, sl79, sl80, sl81, sl82, sl83, sl84, sl85, sl86, sl87, sl88, sl89, sl90, sl91, sl92, sl93, sl94, sl95, sl96, sl97, sl98, sl99, sl100, sl101, sl102, sl103, sl104, sl105, sl106, sl107, sl108, sl109, sl110, sl111, sl112, sl113, sl114, sl115, sl116, sl117, sl118, sl119, sl120, sl121, sl122, sl123, sl124, sl125, sl126, sl127, sl128, sl129, sl130, sl131, sl132, sl133, sl134, sl135, sl136, sl137, sl138, sl139, sl140, sl141, sl142, sl143, sl144, sl145, sl146, sl147, sl148, sl149, sl150, sl151, sl152, sl153, sl154, sl155, sl156, sl157, sl158, sl159, sl160, sl161, sl162, sl163, sl164, sl165, sl166, sl167, sl168, sl169, sl170, sl171, sl172, sl173, sl174, sl175, sl176, sl177, sl178, sl179, sl180, sl181, sl182, sl183, sl184, sl185, sl186, sl187, sl188, sl189, sl190, sl191, sl192, sl193, sl194, sl195, sl196, sl197, sl198, sl199, sl200, sl201, sl202, sl203, sl204, sl205, sl206, sl207, sl208, sl209, sl210, sl211, sl212, sl213, sl214, sl215, sl216, sl217, sl218, sl219, sl220, sl221, sl222, sl223, sl224, sl225, sl226, sl227, sl228, sl229, sl230, sl231, sl232, sl233, sl234, sl235, sl236, sl237, sl238, sl239, sl240, sl241, sl242, sl243, sl244, sl245, sl246, sl247, sl248, sl249, sl250, sl251, sl252, sl253, sl254, sl255, sl256, sl257, sl258, sl259, sl260, sl261, sl262, sl263, sl264, sl265, sl266, sl267, sl268, sl269, sl270, sl271, sl272, sl273, sl274, sl275, sl276, sl277, sl278, sl279, sl280, sl281, sl282, sl283, sl284, sl285, sl286, sl287, sl288, sl289, sl290, sl291, sl292, sl293, sl294, sl295, sl296, sl297, sl298, sl299, sl300, sl301, sl302, sl303, sl304, sl305, sl306, sl307, sl308, sl309, sl310, sl311, sl312, sl313, sl314, sl315, sl316, sl317, sl318, sl319, sl320, sl321, sl322, sl323, sl324, sl325, sl326, sl327, sl328, sl329, sl330, sl331, sl332, sl333, sl334, sl335, sl336, sl337, sl338, sl339, sl340, sl341, sl342, sl343, sl344, sl345, sl346, sl347, sl348, sl349, sl350, sl351, sl352, sl353, sl354, sl355, sl356, sl357, sl358, sl359, sl360, sl361, sl362, sl363, sl364, sl365, sl366, sl367, sl368, sl369], []⟩ W := by
  simp only [Code.tl, Tryz.f3, Option.getD_some]
  have HA := hide hA; have HB := hide hB; have HM := hide hM; have HX := hide hX; have HBE := hide hbe; have HT := hide ht; have HR10 := hide hr10; have HR8 := hide hr8; have HK := hide hK; have HKB := hide hkb
  obtain ⟨xb, xcap, exx, -⟩ := hX.at 0 (by simp)
  have exx' : vx = .slice (some ⟨xb, 0, none⟩) 2 xcap := exx
  subst exx'
  obtain ⟨ao, acap, rfl, -, -⟩ := hA
  obtain ⟨bo, bcap, rfl, -, -⟩ := hB
  obtain ⟨mo, mcap, rfl, -, -⟩ := hM
  clear hX hbe ht hr10 hr8 hK hkb exx
  have hl1 : ((xs.length : Int) == (ys.length : Int)) = false := by rw [beq_eq_false_iff_ne]; omega
  have hl2 : ((xs.length : Int) != (ys.length : Int)) = true := by rw [bne_iff_ne]; omega
  have HNE : Hid (false = decide (xs = ys)) := (decide_eq_false fun e => hl (by rw [e])).symm
  clear hl
  go_wp2_with fail
  refine (same_of 6 (by decide) W).mono ?_
  rintro e w1 ⟨rfl, rfl⟩
  go_wp2_with fail
  refine (same_of 6 (by decide) w1).mono ?_
  rintro e w2 ⟨rfl, rfl⟩
  go_wp2_with fail
  refine (alike_any w2 _ _ xs ys 8 8 (HA.out.below HBE.out (Nat.le_refl _)) (HB.out.below HBE.out (Nat.le_refl _)) (by omega) false HNE.out).mono ?_
  rintro e w3 ⟨rfl, hb3⟩
  have HBW := hide (HBE.out.trans (hb3.mono HBE.out.size))
  have HXW := hide (HX.out.below hb3 (Nat.le_refl _))
  have HKW := hide (HKB.out.later hb3 hks)
  have lk : w.heap.size < w3.heap.size := Nat.lt_of_lt_of_le hks hb3.size
  clear hb3 HX HKB HBE HNE
  go_upto_region 27 with fail
  go_cut [24] from 33 (fun v wc => VecN wc v (xs.map (z * ·)) 16 ∧ Below w3.heap.size w3 wc)
  case first =>
    obtain ⟨kk0, kk1, -, -⟩ := HKW.out
    go_wp2_with fail
    refine (scaleV_any w3 _ _ z xs 8 8 (HK.out.below HBW.out (Nat.le_refl _)) (HA.out.below HBW.out (Nat.le_refl _)) (by omega) (by decide) (by decide)).mono ?_
    rintro e w9 ⟨P, rfl, hv⟩
    have HV := hide hv
    clear hv
    go_wp2
    go_meet
    case rel => exact ⟨by have h := HV.out.vec; rwa [List.length_map] at h, HV.out.below⟩
  case rest =>
  obtain ⟨hvt, hb9⟩ := hcut
  apply_assumption
  exact vecSays_E w _ _ _ _ _ _ kn ko kl kc z xs ys rss ys.length (HBW.out.trans (hb9.mono HBW.out.size)) HT.out HA.out HB.out rfl hy8 hx1 hx8 HM.out hr14 HR10.out HR8.out (HXW.out.below hb9 (Nat.le_refl _)) HK.out (HKW.out.later hb9 lk) (Nat.lt_of_lt_of_le lk hb9.size) hvt _ _ _ _ _ _ _ _ _ _ _ _ _ _ _ _ _ _ _ _ _ _ _ _ _ _ _ _ _ _ _ _ _ _ _ _ _ _ _ _ _ _ _ _ _ _ _ _ _ _ _ _ _ _ _ _ _ _ _ _ _ _ _ _ _ _ _ _ _ _ _ _ _ _ _ _ _ _ _ _ _ _ _ _ _ _ _ _ _ _ _ _ _ _ _ _ _ _ _ _ _ _ _ _ _ _ _ _ _ _ _ _ _ _ _ _ _ _ _ _ _ _ _ _ _ _ _ _ _ _ _ _ _ _ _ _ _ _ _ _ _ _ _ _ _ _ _ _ _ _ _ _ _ _ _ _ _ _ _ _ _ _ _ _ _ _ _ _ _ _ _ _ _ _ _ _ _ _ _ _ _ _ _ _ _ _ _ _ _ _ _ _ _ _ _ _ _ _ _ _ _ _ _ _ _ _ _ _ _ _ _ _ _ _ _ _ _ _ _ _ _ _ _ _ _ _ _ _ _ _ _ _ _ _ _ _ _ _ _ _ _ _ _ _ _ _ _ _ _ _ _ _ _ _ _ _ _ _ _ _ _ _ _ _ _ _ _ _ _ _ _ _ _ _ _ _ _ _ _ _ _ _ _ _ _ _ _ _ _ _ _ _ _ _ _ _ _ _ _ _ _ _ _ _ _ _ _ _ _ _ _ _ _ _ _ _ _ _ _ _ _ _ _ _ _ _ _ _ _ _ _ _ _ _ _ _ _ _ _ _ _ _ _ _ _ _ _ _ _ _ _ _ _ _ _ _ _ _ _ _ _ _ _ _

end Go.Proofs.YtklhmnejmbgmjabGreatDoor
