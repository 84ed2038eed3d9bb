/- VecSays: what Check says; what is read. -/
import Derived.Test.YtklhmnejmbgmjabGreatDoorVSC
namespace Go.Proofs.YtklhmnejmbgmjabGreatDoor
open Go.RowKit Limbs Digs

theorem same_checkedV (rs : List Raw) (w : World) : Calls Tryz.prog 12 #[checkedV rs, .int .i64 (faultV rs)] w fun e w' => e = .returned (.bool true) ∧ w' = w := by
  unfold checkedV faultV
  split
  · exact same_of 6 (by decide) w
  · unfold checked faulty
    split
    · exact same_zero w
    · exact same_of 3 (by decide) w

theorem spec_err {s : ByteArray} {n : Int} (h : SpecV s (.error n)) : 0 < n := by
  rcases h with ⟨-, h⟩ | ⟨-, -, -, -, h⟩ | ⟨-, -, -, -, os, -, ⟨-, h⟩ | ⟨-, h⟩⟩
  · cases h; decide
  · cases h; decide
  · cases h; decide
  · cases h

theorem spec_ok {s : ByteArray} {zs : List Int} (h : SpecV s (.ok zs)) : zs.length ≤ 8 := by
  rcases h with ⟨-, h⟩ | ⟨-, -, -, -, h⟩ | ⟨-, -, -, h8, os, hrd, ⟨-, h⟩ | ⟨-, h⟩⟩
  · cases h
  · cases h
  · cases h
  · cases h
    rw [List.length_map, hrd.1, List.length_map]
    exact h8

theorem vecN_nil (w : World) (n : Nat) : VecN w (.slice none 0 0) [] n := ⟨none, 0, rfl, Nat.le_refl _, fun h => absurd h (by simp)⟩

set_option linter.unusedSimpArgs false in
set_option maxRecDepth 100000 in
set_option maxHeartbeats 6400000 in
theorem vecSays_B (w W : World) (va vb vm : Value) (s : ByteArray) (kn : Bool) (ko : Option Addr) (kc : Nat) (kz : List Int) (ras rbs : List Raw) (rss : List (List Raw)) (hbe : Below w.heap.size w W) (ht : Tab w) (hA : VecL w va ras) (hB : VecL w vb rbs) (ha8 : ∀ r ∈ ras, r.zs.length ≤ 8) (hb8 : ∀ r ∈ rbs, r.zs.length ≤ 8) (hM : MatL w vm rss) (hr14 : rss.length ≤ 14) (hr10 : ∀ rs ∈ rss, rs.length ≤ 10) (hr8 : ∀ rs ∈ rss, ∀ r ∈ rs, r.zs.length ≤ 8) (hK : Lim w (.slice ko kz.length kc) kz) (hk8 : kz.length ≤ 8) (hkb : Box W w.heap.size (.bool kn) (.slice ko kz.length kc)) (hks : w.heap.size < W.heap.size) (hm : MaxLenSet w) (hs : s.size ≤ 300) (sl2 sl5 sl6 sl8 sl9 sl10 sl11 sl14 sl15 sl16 sl17 sl18 sl19 sl20 sl21 sl22 sl23 sl24 sl25 sl26 sl27 sl28 sl29 sl30 sl31 sl32 sl33 sl34 sl35 sl36 sl37 sl38 sl39 sl40 sl41 sl42 sl43 sl44 sl45 sl46 sl47 sl48 sl49 sl50 sl51 sl52 sl53 sl54 sl55 sl56 sl57 sl58 sl59 sl60 sl61 sl62 sl63 sl64 sl65 sl66 sl67 sl68 sl69 sl70 sl71 sl72 sl73 sl74 sl75 sl76 sl77 sl78 sl79 sl80 sl81 sl82 sl83 sl84 sl85 sl86 sl87 sl88 sl89 sl90 sl91 sl92 sl93 sl94 sl95 sl96 sl97 sl98 sl99 sl100 sl101 sl102 sl103 sl104 sl105 sl106 sl107 sl108 sl109 sl110 sl111 sl112 sl113 sl114 sl115 sl116 sl117 sl118 sl119 sl120 sl121 sl122 sl123 sl124 sl125 sl126 sl127 sl128 sl129 sl130 sl131 sl132 sl133 sl134 sl135 sl136 sl137 sl138 sl139 sl140 sl141 sl142 sl143 sl144 sl145 sl146 sl147 sl148 sl149 sl150 sl151 sl152 sl153 sl154 sl155 sl156 sl157 sl158 sl159 sl160 sl161 sl162 sl163 sl164 sl165 sl166 sl167 sl168 sl169 sl170 sl171 sl172 sl173 sl174 sl175 sl176 sl177 sl178 sl179 sl180 sl181 sl182 sl183 sl184 sl185 sl186 sl187 sl188 sl189 sl190 sl191 sl192 sl193 sl194 sl195 sl196 sl197 sl198 sl199 sl200 sl201 sl202 sl203 sl204 sl205 sl206 sl207 sl208 sl209 sl210 sl211 sl212 sl213 sl214 sl215 sl216 sl217 sl218 sl219 sl220 sl221 sl222 sl223 sl224 sl225 sl226 sl227 sl228 sl229 sl230 sl231 sl232 sl233 sl234 sl235 sl236 sl237 sl238 sl239 sl240 sl241 sl242 sl243 sl244 sl245 sl246 sl247 sl248 sl249 sl250 sl251 sl252 sl253 sl254 sl255 sl256 sl257 sl258 sl259 sl260 sl261 sl262 sl263 sl264 sl265 sl266 sl267 sl268 sl269 sl270 sl271 sl272 sl273 sl274 sl275 sl276 sl277 sl278 sl279 sl280 sl281 sl282 sl283 sl284 sl285 sl286 sl287 sl288 sl289 sl290 sl291 sl292 sl293 sl294 sl295 sl296 sl297 sl298 sl299 sl300 sl301 sl302 sl303 sl304 sl305 sl306 sl307 sl308 sl309 sl310 sl311 sl312 sl313 sl314 sl315 sl316 sl317 sl318 sl319 sl320 sl321 sl322 sl323 sl324 sl325 sl326 sl327 sl328 sl329 sl330 sl331 sl332 sl333 sl334 sl335 sl336 sl337 sl338 sl339 sl340 sl341 sl342 sl343 sl344 sl345 sl346 sl347 sl348 sl349 sl350 sl351 sl352 sl353 sl354 sl355 sl356 sl357 sl358 sl359 sl360 sl361 sl362 sl363 sl364 sl365 sl366 sl367 sl368 sl369 : Value) :
    (Code.tl (Code.tl (Code.tl (Code.tl (Code.tl ((Tryz.f3.body).getD .skip)))))).wp Tryz.prog (bodyPost Tryz.prog Tryz.f3 (fun e w' => e = .returned (.bool true) ∧ Below w.heap.size w w')) ⟨#[va, vb, sl2, vm, .string s, sl5, sl6, .pointer (some ⟨w.heap.size, 0, none⟩), sl8, sl9, sl10, sl11, .int .i64 (faultV ras), .int .i64 (faultV rbs), sl14, sl15, sl16, sl17, sl18, sl19, sl20, sl21, sl22, sl23, sl24, sl25, sl26, sl27, sl28, sl29, sl30, sl31, sl32, sl33, sl34, sl35, sl36, sl37, sl38, sl39, sl40, sl41, sl42, sl43, sl44, sl45, sl46, sl47, sl48, sl49, sl50, sl51, sl52, sl53, sl54, sl55, sl56, sl57, sl58, sl59, sl60, sl61, sl62, sl63, sl64, sl65, sl66, sl67, sl68, sl69, sl70, sl71, sl72, sl73, sl74, sl75, sl76, sl77, sl78, sl79, sl80, sl81, sl82, sl83, sl84, sl85, sl86, sl87, sl88, sl89, sl90, sl91, sl92, sl93, sl94, sl95, sl96, sl97, sl98, sl99, sl100, sl101, sl102, sl103, sl104, sl105, sl106, sl107, sl108, sl109, sl110, sl111, sl112, sl113, sl114, sl115, sl116, sl117, sl118, sl119, sl120, sl121, sl122, sl123, sl124, sl125, sl126, sl127, sl128, sl129, sl130, sl131, sl132, sl133, sl134, sl135, sl136, sl137, sl138, sl139, sl140, sl141, sl142, sl143, sl144, sl145, sl146, sl147, sl148, sl149, sl150, sl151, sl152, sl153, sl154, sl155, sl156, sl157, sl158, sl159, sl160, sl161, sl162, sl163, sl164, sl165, sl166, sl167, sl168, sl169, sl170, sl171, sl172, sl173, sl174, sl175, sl176, sl177, sl178, sl179, sl180, sl181, sl182, sl183, sl184, sl185, sl186, sl187, sl188, sl189, sl190, sl191, sl192, sl193, sl194, sl195, sl196, sl197, sl198, sl199, sl200, sl201, sl202, sl203, sl204, sl205, sl206, sl207, sl208, sl209, sl210, sl211, sl212, sl213, sl214, sl215, sl216, sl217, sl218, sl219, sl220, sl221, sl222, sl223, sl224, sl225, sl226, sl227, sl228, sl229, sl230, sl231, sl232, sl233, sl234, sl235, sl236, sl237, sl238, sl239, sl240, sl241, sl242, sl243, sl244, sl245, sl246, sl247, sl248, sl249, sl250, sl251, sl252, sl253, sl254, sl255, sl256, sl257, sl258, sl259, sl260, sl261, sl262, sl263, sl264, sl265, sl266, sl267, sl268, sl269, sl270, sl271, sl272, sl273, sl274, sl275, sl276, sl277, sl278, sl279, sl280, sl281, sl282, sl283, sl284, sl285, sl286, sl287, sl288, sl289, sl290, sl291, sl292, sl293, sl294, sl295, sl296, sl297, sl298, sl299, sl300, sl301, sl302, sl303, sl304, sl305, sl306, sl307, sl308, sl309, sl310, sl311, sl312, sl313, sl314, sl315, sl316, sl317, sl318, sl319, sl320, sl321, sl322, sl323, sl324, sl325, sl326, sl327, sl328, sl329, sl330, sl331, sl332, sl333, sl334, sl335, sl336, sl337, sl338, sl339, sl340, sl341, sl342, sl343, sl344, sl345, sl346, sl347, sl348, sl349, sl350, sl351, sl352, sl353, sl354, sl355, sl356, sl357, sl358, sl359, sl360, sl361, sl362, sl363, sl364, sl365, sl366, sl367, sl368, sl369], []⟩ W := by
  simp only [Code.tl, Tryz.f3, Option.getD_some]
  have HA := hide hA; have HB := hide hB; have HM := hide hM; have HBE := hide hbe; have HT := hide ht; have HR10 := hide hr10; have HR8 := hide hr8; have HK := hide hK; have HKB := hide hkb; have HA8 := hide ha8; have HB8 := hide hb8; have HMX := hide hm
  clear hA hB hM hbe ht hr10 hr8 hK hkb ha8 hb8 hm
  go_wp2_with fail
  refine (checkV_any W va ras (HA.out.below HBE.out (Nat.le_refl _))).mono ?_
  rintro e w1 ⟨rfl, hb1⟩
  have HB1 := hide (HBE.out.trans (hb1.mono HBE.out.size))
  have HK1 := hide (HKB.out.later hb1 hks)
  have lk1 : w.heap.size < w1.heap.size := Nat.lt_of_lt_of_le hks hb1.size
  clear hb1 HBE HKB hks
  go_wp2_with fail
  refine (same_checkedV ras w1).mono ?_
  rintro e w1' ⟨rfl, rfl⟩
  go_wp2_with fail
  refine (checkV_any w1' vb rbs (HB.out.below HB1.out (Nat.le_refl _))).mono ?_
  rintro e w2 ⟨rfl, hb2⟩
  have HB2 := hide (HB1.out.trans (hb2.mono HB1.out.size))
  have HK2 := hide (HK1.out.later hb2 lk1)
  have lk2 : w.heap.size < w2.heap.size := Nat.lt_of_lt_of_le lk1 hb2.size
  clear hb2 HB1 HK1 lk1
  go_wp2_with fail
  refine (same_checkedV rbs w2).mono ?_
  rintro e w2' ⟨rfl, rfl⟩
  obtain ⟨o, ho⟩ := specV_some s
  cases o with
  | error n =>
    have HN := hide (spec_err ho)
    have HSP := hide ho
    clear ho
    go_wp2_with fail
    refine (parseV_gen w2' s _ (HMX.out.below HB2.out) hs HSP.out).mono ?_
    rintro e w3 ⟨rfl, hb3⟩
    have HB3 := hide (HB2.out.trans (hb3.mono HB2.out.size))
    have HK3 := hide (HK2.out.later hb3 lk2)
    have lk3 : w.heap.size < w3.heap.size := Nat.lt_of_lt_of_le lk2 hb3.size
    
    clear hb3 HB2 HK2 lk2 HMX
    go_upto_region 9 with fail
    go_cut [16, 17] from 33 (fun rv fv wc => rv = .slice none 0 0 ∧ fv = .int .i64 n ∧ Below w3.heap.size w3 wc)
    case first =>
      go_wp2_with fail
      refine (readV_gen w3 s _ hs HSP.out).mono ?_
      rintro e w4 ⟨rfl, hb4⟩
      have HB4 := hide hb4
      
      clear hb4
      go_wp2
      go_meet
      case rel => exact ⟨rfl, rfl, HB4.out⟩
    case rest =>
    obtain ⟨rfl, rfl, hb4⟩ := hcut
    apply_assumption
    exact vecSays_C w _ _ _ _ _ _ _ _ kn ko kc kz ras rbs [] rss (HB3.out.trans (hb4.mono HB3.out.size)) HT.out HA.out HB.out HA8.out HB8.out HM.out hr14 HR10.out HR8.out HK.out hk8 (HK3.out.later hb4 lk3) (Nat.lt_of_lt_of_le lk3 hb4.size) (fun w => same_of n HN.out w) (vecN_nil _ _) (vecN_nil _ _) (by simp) _ _ _ _ _ _ _ _ _ _ _ _ _ _ _ _ _ _ _ _ _ _ _ _ _ _ _ _ _ _ _ _ _ _ _ _ _ _ _ _ _ _ _ _ _ _ _ _ _ _ _ _ _ _ _ _ _ _ _ _ _ _ _ _ _ _ _ _ _ _ _ _ _ _ _ _ _ _ _ _ _ _ _ _ _ _ _ _ _ _ _ _ _ _ _ _ _ _ _ _ _ _ _ _ _ _ _ _ _ _ _ _ _ _ _ _ _ _ _ _ _ _ _ _ _ _ _ _ _ _ _ _ _ _ _ _ _ _ _ _ _ _ _ _ _ _ _ _ _ _ _ _ _ _ _ _ _ _ _ _ _ _ _ _ _ _ _ _ _ _ _ _ _ _ _ _ _ _ _ _ _ _ _ _ _ _ _ _ _ _ _ _ _ _ _ _ _ _ _ _ _ _ _ _ _ _ _ _ _ _ _ _ _ _ _ _ _ _ _ _ _ _ _ _ _ _ _ _ _ _ _ _ _ _ _ _ _ _ _ _ _ _ _ _ _ _ _ _ _ _ _ _ _ _ _ _ _ _ _ _ _ _ _ _ _ _ _ _ _ _ _ _ _ _ _ _ _ _ _ _ _ _ _ _ _ _ _ _ _ _ _ _ _ _ _ _ _ _ _ _ _ _ _ _ _ _ _ _ _ _ _ _ _ _ _ _ _ _ _ _ _ _ _ _ _ _ _ _ _ _ _ _ _ _ _ _ _ _ _ _ _ _ _ _ _ _ _ _ _ _ _ _ _ _ _ _ _ _ _ _
  | ok zs =>
    have HN := hide (spec_ok ho)
    have HSP := hide ho
    clear ho
    go_wp2_with fail
    refine (parseV_gen w2' s _ (HMX.out.below HB2.out) hs HSP.out).mono ?_
    rintro e w3 ⟨pv, rfl, hpv, hb3⟩
    have HB3 := hide (HB2.out.trans (hb3.mono HB2.out.size))
    have HK3 := hide (HK2.out.later hb3 lk2)
    have lk3 : w.heap.size < w3.heap.size := Nat.lt_of_lt_of_le lk2 hb3.size
    have HPV := hide hpv
    clear hpv hb3 HB2 HK2 lk2 HMX
    go_upto_region 9 with fail
    go_cut [16, 17] from 33 (fun rv fv wc => VecN wc rv zs 400 ∧ fv = .int .i64 0 ∧ Below w3.heap.size w3 wc)
    case first =>
      go_wp2_with fail
      refine (readV_gen w3 s _ hs HSP.out).mono ?_
      rintro e w4 ⟨rv, rfl, hrv, hb4⟩
      have HB4 := hide hb4
      have HRV := hide hrv
      clear hrv hb4
      go_wp2
      go_meet
      case rel => exact ⟨HRV.out, rfl, HB4.out⟩
    case rest =>
    obtain ⟨hrv, rfl, hb4⟩ := hcut
    apply_assumption
    exact vecSays_C w _ _ _ _ _ _ _ _ kn ko kc kz ras rbs zs rss (HB3.out.trans (hb4.mono HB3.out.size)) HT.out HA.out HB.out HA8.out HB8.out HM.out hr14 HR10.out HR8.out HK.out hk8 (HK3.out.later hb4 lk3) (Nat.lt_of_lt_of_le lk3 hb4.size) same_zero (HPV.out.below hb4 (Nat.le_refl _)) hrv (by have := HN.out; omega) _ _ _ _ _ _ _ _ _ _ _ _ _ _ _ _ _ _ _ _ _ _ _ _ _ _ _ _ _ _ _ _ _ _ _ _ _ _ _ _ _ _ _ _ _ _ _ _ _ _ _ _ _ _ _ _ _ _ _ _ _ _ _ _ _ _ _ _ _ _ _ _ _ _ _ _ _ _ _ _ _ _ _ _ _ _ _ _ _ _ _ _ _ _ _ _ _ _ _ _ _ _ _ _ _ _ _ _ _ _ _ _ _ _ _ _ _ _ _ _ _ _ _ _ _ _ _ _ _ _ _ _ _ _ _ _ _ _ _ _ _ _ _ _ _ _ _ _ _ _ _ _ _ _ _ _ _ _ _ _ _ _ _ _ _ _ _ _ _ _ _ _ _ _ _ _ _ _ _ _ _ _ _ _ _ _ _ _ _ _ _ _ _ _ _ _ _ _ _ _ _ _ _ _ _ _ _ _ _ _ _ _ _ _ _ _ _ _ _ _ _ _ _ _ _ _ _ _ _ _ _ _ _ _ _ _ _ _ _ _ _ _ _ _ _ _ _ _ _ _ _ _ _ _ _ _ _ _ _ _ _ _ _ _ _ _ _ _ _ _ _ _ _ _ _ _ _ _ _ _ _ _ _ _ _ _ _ _ _ _ _ _ _ _ _ _ _ _ _ _ _ _ _ _ _ _ _ _ _ _ _ _ _ _ _ _ _ _ _ _ _ _ _ _ _ _ _ _ _ _ _ _ _ _ _ _ _ _ _ _ _ _ _ _ _ _ _ _ _ _ _ _ _ _ _ _ _ _ _ _

end Go.Proofs.YtklhmnejmbgmjabGreatDoor
