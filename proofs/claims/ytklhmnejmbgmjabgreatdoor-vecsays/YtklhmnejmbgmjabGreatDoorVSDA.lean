/- VecSays: sums and differences; multiples: as many numbers in both. -/
import Derived.Test.YtklhmnejmbgmjabGreatDoorVSE
namespace Go.Proofs.YtklhmnejmbgmjabGreatDoor
open Go.RowKit Limbs Digs

set_option linter.unusedSimpArgs false in
set_option maxRecDepth 100000 in
set_option maxHeartbeats 6400000 in
theorem vecSays_DA (w W : World) (va vb vm vx vs vd : Value) (kn : Bool) (ko : Option Addr) (kl kc : Nat) (z : Int) (xs ys : List Int) (rss : List (List Raw)) (hbe : Below w.heap.size w W) (ht : Tab w) (hA : VecN w va xs 8) (hB : VecN w vb ys 8) (hy8 : ys.length ≤ 8) (hx1 : 1 ≤ xs.length) (hx8 : xs.length ≤ 8) (hM : MatL w vm rss) (hr14 : rss.length ≤ 14) (hr10 : ∀ rs ∈ rss, rs.length ≤ 10) (hr8 : ∀ rs ∈ rss, ∀ r ∈ rs, r.zs.length ≤ 8) (hK : NumL w (.agg #[.bool kn, .slice ko kl kc]) z 8) (hkb : Box W w.heap.size (.bool kn) (.slice ko kl kc)) (hks : w.heap.size < W.heap.size) (hX : MatR W vx [xs, ys] 24) (hl : xs.length = ys.length) (hvs : VecN W vs (List.zipWith (fun x y => x + y) xs ys) 9) (hvd : VecN W vd (List.zipWith (fun x y => x - y) xs ys) 9) (sl2 sl4 sl5 sl6 sl8 sl9 sl10 sl11 sl12 sl13 sl14 sl15 sl16 sl17 sl23 sl24 sl25 sl26 sl27 sl28 sl29 sl30 sl31 sl32 sl33 sl34 sl35 sl36 sl37 sl38 sl39 sl40 sl41 sl42 sl43 sl44 sl45 sl46 sl47 sl48 sl49 sl50 sl51 sl52 sl53 sl54 sl55 sl56 sl57 sl58 sl59 sl60 sl61 sl62 sl63 sl64 sl65 sl66 sl67 sl68 sl69 sl70 sl71 sl72 sl73 sl74 sl75 sl76 sl77 sl78 sl79 sl80 sl81 sl82 sl83 sl84 sl85 sl86 sl87 sl88 sl89 sl90 sl91 sl92 sl93 sl94 sl95 sl96 sl97 sl98 sl99 sl100 sl101 sl102 sl103 sl104 sl105 sl106 sl107 sl108 sl109 sl110 sl111 sl112 sl113 sl114 sl115 sl116 sl117 sl118 sl119 sl120 sl121 sl122 sl123 sl124 sl125 sl126 sl127 sl128 sl129 sl130 sl131 sl132 sl133 sl134 sl135 sl136 sl137 sl138 sl139 sl140 sl141 sl142 sl143 sl144 sl145 sl146 sl147 sl148 sl149 sl150 sl151 sl152 sl153 sl154 sl155 sl156 sl157 sl158 sl159 sl160 sl161 sl162 sl163 sl164 sl165 sl166 sl167 sl168 sl169 sl170 sl171 sl172 sl173 sl174 sl175 sl176 sl177 sl178 sl179 sl180 sl181 sl182 sl183 sl184 sl185 sl186 sl187 sl188 sl189 sl190 sl191 sl192 sl193 sl194 sl195 sl196 sl197 sl198 sl199 sl200 sl201 sl202 sl203 sl204 sl205 sl206 sl207 sl208 sl209 sl210 sl211 sl212 sl213 sl214 sl215 sl216 sl217 sl218 sl219 sl220 sl221 sl222 sl223 sl224 sl225 sl226 sl227 sl228 sl229 sl230 sl231 sl232 sl233 sl234 sl235 sl236 sl237 sl238 sl239 sl240 sl241 sl242 sl243 sl244 sl245 sl246 sl247 sl248 sl249 sl250 sl251 sl252 sl253 sl254 sl255 sl256 sl257 sl258 sl259 sl260 sl261 sl262 sl263 sl264 sl265 sl266 sl267 sl268 sl269 sl270 sl271 sl272 sl273 sl274 sl275 sl276 sl277 sl278 sl279 sl280 sl281 sl282 sl283 sl284 sl285 sl286 sl287 sl288 sl289 sl290 sl291 sl292 sl293 sl294 sl295 sl296 sl297 sl298 sl299 sl300 sl301 sl302 sl303 sl304 sl305 sl306 sl307 sl308 sl309 sl310 sl311 sl312 sl313 sl314 sl315 sl316 sl317 sl318 sl319 sl320 sl321 sl322 sl323 sl324 sl325 sl326 sl327 sl328 sl329 sl330 sl331 sl332 sl333 sl334 sl335 sl336 sl337 sl338 sl339 sl340 sl341 sl342 sl343 sl344 sl345 sl346 sl347 sl348 sl349 sl350 sl351 sl352 sl353 sl354 sl355 sl356 sl357 sl358 sl359 sl360 sl361 sl362 sl363 sl364 sl365 sl366 sl367 sl368 sl369 : Value) :
    (Code.tl (Code.tl (Code.tl (Code.tl (Code.tl (Code.tl (Code.tl (Code.tl (Code.tl (Code.tl (Code.tl (Code.tl (Code.tl ((Tryz.f3.body).getD .skip)))))))))))))).wp Tryz.prog (bodyPost Tryz.prog Tryz.f3 (fun e w' => e = .returned (.bool true) ∧ Below w.heap.size w w')) ⟨#[va, vb, sl2, vm, sl4, sl5, sl6, .pointer (some ⟨w.heap.size, 0, none⟩), sl8, sl9, sl10, sl11, sl12, sl13, sl14, sl15, sl16, sl17, vx, vs, .nilIface, vd, .nilIface, sl23, sl24, sl25, sl26, sl27, sl28, sl29, sl30, sl31, sl32, sl33, sl34, sl35, sl36, sl37, sl38, sl39, sl40, sl41, sl42, sl43, sl44, sl45, sl46, sl47, sl48, sl49, sl50, sl51, sl52, sl53, sl54, sl55, sl56, sl57, sl58, sl59, sl60, sl61, sl62, sl63, sl64, sl65, sl66, sl67, sl68, sl69, sl70, sl71, sl72, sl73, sl74, sl75, sl76, sl77, sl78, sl79, sl80, sl81, sl82, sl83, sl84, sl85, sl86, sl87, sl88, sl89, sl90, sl91, sl92, sl93, sl94, sl95, sl96, sl97, sl98, sl99, sl100, sl101, sl102, sl103, sl104, sl105, sl106, sl107, sl108, sl109, sl110, sl111, sl112, sl113, sl114, sl115, sl116, sl117, sl118, sl119, sl120, sl121, sl122, sl123, sl124, sl125, sl126, sl127, sl128, sl129, sl130, sl131, sl132, sl133, sl134, sl135, sl136, sl137, sl138, sl139, sl140, sl141, sl142, sl143, sl144, sl145, sl146, sl147, sl148, sl149, sl150, sl151, sl152, sl153, sl154, sl155, sl156, sl157, sl158, sl159, sl160, sl161, sl162, sl163, sl164, sl165, sl166, sl167, sl168, sl169, sl170, sl171, sl172, sl173, sl174, sl175, sl176, sl177, sl178, sl179, sl180, sl181, sl182, sl183, sl184, sl185, sl186, sl187, sl188, sl189, sl190, sl191, sl192, sl193, sl194, sl195, sl196, sl197, sl198, sl199, sl200, sl201, sl202, sl203, sl204, sl205, sl206, sl207, sl208, sl209, sl210, sl211, sl212, sl213, sl214, sl215, sl216, sl217, sl218, sl219, sl220, sl221, sl222, sl223, sl224, sl225, sl226, sl227, sl228, sl229, sl230, sl231, sl232, sl233, sl234, sl235, sl236, sl237, sl238, sl239, sl240, sl241, sl242, sl243, sl244, sl245, sl246, sl247, sl248, sl249, sl250, sl251, sl252, sl253, sl254, sl255, sl256, sl257, sl258, sl259, sl260, sl261, sl262, sl263, sl264, sl265, sl266, sl267, sl268, sl269, sl270, sl271, sl272, sl273, sl274, sl275, sl276, sl277, sl278, sl279, sl280, sl281, sl282, sl283, sl284, sl285, sl286, sl287, sl288, sl289, sl290, sl291, sl292, sl293, sl294, sl295, sl296, sl297, sl298, sl299, sl300, sl301, sl302, sl303, sl304, sl305, sl306, sl307, sl308, sl309, sl310, sl311, sl312, sl313, sl314, sl315, sl316, sl317, sl318, sl319, sl320, sl321, sl322, sl323, sl324, sl325, sl326, sl327, sl328, sl329, sl330, sl331, sl332, sl333, sl334, sl335, sl336, sl337, sl338, sl339, sl340, sl341, sl342, sl343, sl344, sl345, sl346, sl347, sl348, sl349, sl350, sl351, sl352, sl353, sl354, sl355, sl356, sl357, sl358, sl359, sl360, sl361, sl362, sl363, sl364, sl365, sl366, sl367, sl368, sl369], []⟩ W := by
  simp only [Code.tl, Tryz.f3, Option.getD_some]
  have HA := hide hA; have HB := hide hB; have HM := hide hM; have HX := hide hX; have HBE := hide hbe; have HT := hide ht; have HR10 := hide hr10; have HR8 := hide hr8; have HK := hide hK; have HKB := hide hkb
  obtain ⟨xb, xcap, exx, -⟩ := hX.at 0 (by simp)
  have exx' : vx = .slice (some ⟨xb, 0, none⟩) 2 xcap := exx
  subst exx'
  obtain ⟨ao, acap, rfl, -, -⟩ := hA
  obtain ⟨bo, bcap, rfl, -, -⟩ := hB
  obtain ⟨mo, mcap, rfl, -, -⟩ := hM
  clear hX hbe ht hr10 hr8 hK hkb exx
  have hl1 : ((xs.length : Int) == (ys.length : Int)) = true := by rw [beq_iff_eq]; omega
  have hl2 : ((xs.length : Int) != (ys.length : Int)) = false := by rw [bne_eq_false_iff_eq]; omega
  have hzs : (List.zipWith (fun x y => x + y) xs ys).length = xs.length := zip_len _ _ _ hl
  have hzd : (List.zipWith (fun x y => x - y) xs ys).length = xs.length := zip_len _ _ _ hl
  have HZS := hide (zip_getD (fun x y => x + y) xs ys hl)
  have HZD := hide (zip_getD (fun x y => x - y) xs ys hl)
  have HVS := hide hvs; have HVD := hide hvd
  obtain ⟨sb, soff, scap, es⟩ := hvs.form (by omega)
  rw [hzs] at es
  subst es
  obtain ⟨db, doff, dcap, ed⟩ := hvd.form (by omega)
  rw [hzd] at ed
  subst ed
  have HL := hide hl
  clear hl hvs hvd
  go_wp2_with fail
  refine (alike_any W _ _ xs ys 8 8 (HA.out.below HBE.out (Nat.le_refl _)) (HB.out.below HBE.out (Nat.le_refl _)) (by omega) (decide (xs = ys)) rfl).mono ?_
  rintro e w1 ⟨rfl, hb1⟩
  have HB1 := hide hb1
  have HBW1 := hide (HBE.out.trans (hb1.mono HBE.out.size))
  clear hb1
  go_wp2_with fail
  refine (sameVec_any w1 _ _ xs ys 8 8 (HA.out.below HBW1.out (Nat.le_refl _)) (HB.out.below HBW1.out (Nat.le_refl _)) (by omega) (decide (xs = ys)) rfl).mono ?_
  rintro e w2 ⟨rfl, hb2⟩
  have HB2 := hide (HB1.out.trans (hb2.mono HB1.out.size))
  clear hb2 HB1 HBW1
  generalize decide (xs = ys) = dq
  have hdq : (dq != dq) = false := by simp
  go_wp2
  go_loopw [23] (fun iv wr => ∃ i : Nat, i ≤ xs.length ∧ iv = .int .i64 i ∧ Below W.heap.size W wr) (fun iv _ => xs.length - (intOf iv).toNat)
  case atStart => exact ⟨0, Nat.zero_le _, rfl, HB2.out⟩
  case round =>
    clear HB2
    obtain ⟨i, hi, rfl, hbi⟩ := hrel
    have HBI := hide hbi
    clear hbi
    by_cases hil : i < xs.length
    · have hbw := HBI.out
      have hiy : i < ys.length := by have := HL.out; omega
      obtain ⟨ls, sn, so, sl, sc, a0, a1, ns⟩ := (show VecN wr (.slice (some ⟨sb, soff, none⟩) (List.zipWith (fun x y => x + y) xs ys).length scap) (List.zipWith (fun x y => x + y) xs ys) 9 by rw [hzs]; exact HVS.out.below hbw (Nat.le_refl _)).at i (by omega)
      obtain ⟨ld, dn, dO, dl, dc, a2, a3, nd⟩ := (show VecN wr (.slice (some ⟨db, doff, none⟩) (List.zipWith (fun x y => x - y) xs ys).length dcap) (List.zipWith (fun x y => x - y) xs ys) 9 by rw [hzd]; exact HVD.out.below hbw (Nat.le_refl _)).at i (by omega)
      rw [HZS.out i hil] at ns
      rw [HZD.out i hil] at nd
      obtain ⟨_, _, e, lx, xu, a4, hxr⟩ := (HX.out.below hbw (Nat.le_refl _)).at 0 (by simp)
      simp only [Value.slice.injEq, Option.some.injEq, Addr.mk.injEq, and_true] at e
      obtain ⟨rfl, -, rfl⟩ := e
      obtain ⟨_, _, e, -, xu', a5, hxr'⟩ := (HX.out.below hbw (Nat.le_refl _)).at 1 (by simp)
      simp only [Value.slice.injEq, Option.some.injEq, Addr.mk.injEq, and_true] at e
      obtain ⟨rfl, -, rfl⟩ := e
      obtain ⟨x0b, x0c, e2, lx0, ps, po, pl, pc, a6, a7, nx⟩ := RowR.at hxr i (by exact hil)
      obtain ⟨x1b, x1c, e3, lx1, qs, qo, ql, qc, a8, a9, ny⟩ := RowR.at hxr' i (by exact hiy)
      rw [e2] at a4
      rw [e3] at a5
      have a4' : wr.cell? ⟨xb, 0, none⟩ = some (.slice (some ⟨x0b, 0, none⟩) xs.length x0c) := a4
      have a5' : wr.cell? ⟨xb, 1, none⟩ = some (.slice (some ⟨x1b, 0, none⟩) ys.length x1c) := a5
      have NS := hide ns; have ND := hide nd
      have NX : Hid (NumR wr (.agg #[.int .i64 ps, .slice po pl pc]) (xs.getD i 0) 24) := nx
      have NY : Hid (NumR wr (.agg #[.int .i64 qs, .slice qo ql qc]) (ys.getD i 0) 24) := ny
      clear ns nd nx ny hxr hxr' hbw a4 a5 e2 e3
      have a4 := a4'
      have a5 := a5'
      clear a4' a5'
      generalize xs.getD i 0 = x at *
      generalize ys.getD i 0 = y at *
      have tok1 : True := trivial
      have tok2 : True := trivial
      have tok3 : True := trivial
      have tok4 : True := trivial
      have tok5 : True := trivial
      have tok6 : True := trivial
      go_wp2_with fail
      go_region_held3 (fun w' => w'.cell? ⟨sb, soff + i * 2, none⟩ = some (.bool sn) ∧ w'.cell? ⟨sb, soff + i * 2 + 1, none⟩ = some (.slice so sl sc) ∧ w'.cell? ⟨db, doff + i * 2, none⟩ = some (.bool dn) ∧ w'.cell? ⟨db, doff + i * 2 + 1, none⟩ = some (.slice dO dl dc) ∧ w'.cell? ⟨xb, 0, none⟩ = some (.slice (some ⟨x0b, 0, none⟩) xs.length x0c) ∧ w'.cell? ⟨xb, 1, none⟩ = some (.slice (some ⟨x1b, 0, none⟩) ys.length x1c) ∧ w'.cell? ⟨x0b, i * 2, none⟩ = some (.int .i64 ps) ∧ w'.cell? ⟨x0b, i * 2 + 1, none⟩ = some (.slice po pl pc) ∧ w'.cell? ⟨x1b, i * 2, none⟩ = some (.int .i64 qs) ∧ w'.cell? ⟨x1b, i * 2 + 1, none⟩ = some (.slice qo ql qc)) (go_keep)
        (first
          | (go_at_call 24; have _t := tok1; refine (plus_any _ _ _ x y 24 (by exact NX.out) (by exact NY.out) (by decide)).mono ?_; rintro e w3 ⟨r3, rfl, hr3, hb3⟩; have HR3 := hide hr3; have b0 := (hb3.cell (p := ⟨sb, soff + i * 2, none⟩) ls).trans a0; have b1 := (hb3.cell (p := ⟨sb, soff + i * 2 + 1, none⟩) ls).trans a1; have b2 := (hb3.cell (p := ⟨db, doff + i * 2, none⟩) ld).trans a2; have b3 := (hb3.cell (p := ⟨db, doff + i * 2 + 1, none⟩) ld).trans a3; have b4 := (hb3.cell (p := ⟨xb, 0, none⟩) lx).trans a4; have b5 := (hb3.cell (p := ⟨xb, 1, none⟩) lx).trans a5; have b6 := (hb3.cell (p := ⟨x0b, i * 2, none⟩) lx0).trans a6; have b7 := (hb3.cell (p := ⟨x0b, i * 2 + 1, none⟩) lx0).trans a7; have b8 := (hb3.cell (p := ⟨x1b, i * 2, none⟩) lx1).trans a8; have b9 := (hb3.cell (p := ⟨x1b, i * 2 + 1, none⟩) lx1).trans a9; have NS3 := hide (NS.out.below (drewed hb3) (Nat.le_refl _)); have ND3 := hide (ND.out.below (drewed hb3) (Nat.le_refl _)); have NX3 := hide (NX.out.below (drewed hb3) (Nat.le_refl _)); have NY3 := hide (NY.out.below (drewed hb3) (Nat.le_refl _)); have HB3 := hide (HBI.out.trans ((drewed hb3).mono HBI.out.size)); have hs3 := hb3.size; clear hr3 hb3 tok1 )
          | (go_at_call 23; have _t := tok2; refine (intR_any _ _ (x + y) 25 (by exact HR3.out)).mono ?_; rintro e w4 ⟨r4, rfl, hr4, hb4⟩; have HR4 := hide hr4; have c0 := (hb4.cell (p := ⟨sb, soff + i * 2, none⟩) (Nat.lt_of_lt_of_le ls hs3)).trans b0; have c1 := (hb4.cell (p := ⟨sb, soff + i * 2 + 1, none⟩) (Nat.lt_of_lt_of_le ls hs3)).trans b1; have c2 := (hb4.cell (p := ⟨db, doff + i * 2, none⟩) (Nat.lt_of_lt_of_le ld hs3)).trans b2; have c3 := (hb4.cell (p := ⟨db, doff + i * 2 + 1, none⟩) (Nat.lt_of_lt_of_le ld hs3)).trans b3; have c4 := (hb4.cell (p := ⟨xb, 0, none⟩) (Nat.lt_of_lt_of_le lx hs3)).trans b4; have c5 := (hb4.cell (p := ⟨xb, 1, none⟩) (Nat.lt_of_lt_of_le lx hs3)).trans b5; have c6 := (hb4.cell (p := ⟨x0b, i * 2, none⟩) (Nat.lt_of_lt_of_le lx0 hs3)).trans b6; have c7 := (hb4.cell (p := ⟨x0b, i * 2 + 1, none⟩) (Nat.lt_of_lt_of_le lx0 hs3)).trans b7; have c8 := (hb4.cell (p := ⟨x1b, i * 2, none⟩) (Nat.lt_of_lt_of_le lx1 hs3)).trans b8; have c9 := (hb4.cell (p := ⟨x1b, i * 2 + 1, none⟩) (Nat.lt_of_lt_of_le lx1 hs3)).trans b9; have NS4 := hide (NS3.out.below hb4 (Nat.le_refl _)); have ND4 := hide (ND3.out.below hb4 (Nat.le_refl _)); have NX4 := hide (NX3.out.below hb4 (Nat.le_refl _)); have NY4 := hide (NY3.out.below hb4 (Nat.le_refl _)); have HB4 := hide (HB3.out.trans (hb4.mono HB3.out.size)); have hs4 := Nat.le_trans hs3 hb4.size; clear hr4 hb4 tok2 NS3 ND3 NX3 NY3 HR3 b0 b1 b2 b3 b4 b5 b6 b7 b8 b9)
          | (go_at_call 22; have _t := tok3; refine (sameInt_any _ _ _ (x + y) (x + y) 9 25 (by exact NS4.out) (by exact HR4.out)).mono ?_; rintro e w5 ⟨rfl, hb5⟩; rw [decide_eq_true rfl]; have d0 := (hb5.cell (p := ⟨sb, soff + i * 2, none⟩) (Nat.lt_of_lt_of_le ls hs4)).trans c0; have d1 := (hb5.cell (p := ⟨sb, soff + i * 2 + 1, none⟩) (Nat.lt_of_lt_of_le ls hs4)).trans c1; have d2 := (hb5.cell (p := ⟨db, doff + i * 2, none⟩) (Nat.lt_of_lt_of_le ld hs4)).trans c2; have d3 := (hb5.cell (p := ⟨db, doff + i * 2 + 1, none⟩) (Nat.lt_of_lt_of_le ld hs4)).trans c3; have d4 := (hb5.cell (p := ⟨xb, 0, none⟩) (Nat.lt_of_lt_of_le lx hs4)).trans c4; have d5 := (hb5.cell (p := ⟨xb, 1, none⟩) (Nat.lt_of_lt_of_le lx hs4)).trans c5; have d6 := (hb5.cell (p := ⟨x0b, i * 2, none⟩) (Nat.lt_of_lt_of_le lx0 hs4)).trans c6; have d7 := (hb5.cell (p := ⟨x0b, i * 2 + 1, none⟩) (Nat.lt_of_lt_of_le lx0 hs4)).trans c7; have d8 := (hb5.cell (p := ⟨x1b, i * 2, none⟩) (Nat.lt_of_lt_of_le lx1 hs4)).trans c8; have d9 := (hb5.cell (p := ⟨x1b, i * 2 + 1, none⟩) (Nat.lt_of_lt_of_le lx1 hs4)).trans c9; have ND5 := hide (ND4.out.below hb5 (Nat.le_refl _)); have NX5 := hide (NX4.out.below hb5 (Nat.le_refl _)); have NY5 := hide (NY4.out.below hb5 (Nat.le_refl _)); have HB5 := hide (HB4.out.trans (hb5.mono HB4.out.size)); have hs5 := Nat.le_trans hs4 hb5.size; clear hb5 tok3 NS4 ND4 NX4 NY4 HR4 c0 c1 c2 c3 c4 c5 c6 c7 c8 c9)
          | (go_at_call 25; have _t := tok4; refine (less_any _ _ _ x y 24 (by exact NX5.out) (by exact NY5.out) (by decide)).mono ?_; rintro e w6 ⟨r6, rfl, hr6, hb6⟩; have HR6 := hide hr6; have f0 := (hb6.cell (p := ⟨sb, soff + i * 2, none⟩) (Nat.lt_of_lt_of_le ls hs5)).trans d0; have f1 := (hb6.cell (p := ⟨sb, soff + i * 2 + 1, none⟩) (Nat.lt_of_lt_of_le ls hs5)).trans d1; have f2 := (hb6.cell (p := ⟨db, doff + i * 2, none⟩) (Nat.lt_of_lt_of_le ld hs5)).trans d2; have f3 := (hb6.cell (p := ⟨db, doff + i * 2 + 1, none⟩) (Nat.lt_of_lt_of_le ld hs5)).trans d3; have f4 := (hb6.cell (p := ⟨xb, 0, none⟩) (Nat.lt_of_lt_of_le lx hs5)).trans d4; have f5 := (hb6.cell (p := ⟨xb, 1, none⟩) (Nat.lt_of_lt_of_le lx hs5)).trans d5; have f6 := (hb6.cell (p := ⟨x0b, i * 2, none⟩) (Nat.lt_of_lt_of_le lx0 hs5)).trans d6; have f7 := (hb6.cell (p := ⟨x0b, i * 2 + 1, none⟩) (Nat.lt_of_lt_of_le lx0 hs5)).trans d7; have f8 := (hb6.cell (p := ⟨x1b, i * 2, none⟩) (Nat.lt_of_lt_of_le lx1 hs5)).trans d8; have f9 := (hb6.cell (p := ⟨x1b, i * 2 + 1, none⟩) (Nat.lt_of_lt_of_le lx1 hs5)).trans d9; have ND6 := hide (ND5.out.below hb6 (Nat.le_refl _)); have HB6 := hide (HB5.out.trans (hb6.mono HB5.out.size)); have hs6 := Nat.le_trans hs5 hb6.size; clear hr6 hb6 tok4 ND5 NX5 NY5 d0 d1 d2 d3 d4 d5 d6 d7 d8 d9)
          | (go_at_call 23; have _t := tok5; refine (intR_any _ _ (x - y) 25 (by exact HR6.out)).mono ?_; rintro e w7 ⟨r7, rfl, hr7, hb7⟩; have HR7 := hide hr7; have g0 := (hb7.cell (p := ⟨sb, soff + i * 2, none⟩) (Nat.lt_of_lt_of_le ls hs6)).trans f0; have g1 := (hb7.cell (p := ⟨sb, soff + i * 2 + 1, none⟩) (Nat.lt_of_lt_of_le ls hs6)).trans f1; have g2 := (hb7.cell (p := ⟨db, doff + i * 2, none⟩) (Nat.lt_of_lt_of_le ld hs6)).trans f2; have g3 := (hb7.cell (p := ⟨db, doff + i * 2 + 1, none⟩) (Nat.lt_of_lt_of_le ld hs6)).trans f3; have g4 := (hb7.cell (p := ⟨xb, 0, none⟩) (Nat.lt_of_lt_of_le lx hs6)).trans f4; have g5 := (hb7.cell (p := ⟨xb, 1, none⟩) (Nat.lt_of_lt_of_le lx hs6)).trans f5; have g6 := (hb7.cell (p := ⟨x0b, i * 2, none⟩) (Nat.lt_of_lt_of_le lx0 hs6)).trans f6; have g7 := (hb7.cell (p := ⟨x0b, i * 2 + 1, none⟩) (Nat.lt_of_lt_of_le lx0 hs6)).trans f7; have g8 := (hb7.cell (p := ⟨x1b, i * 2, none⟩) (Nat.lt_of_lt_of_le lx1 hs6)).trans f8; have g9 := (hb7.cell (p := ⟨x1b, i * 2 + 1, none⟩) (Nat.lt_of_lt_of_le lx1 hs6)).trans f9; have ND7 := hide (ND6.out.below hb7 (Nat.le_refl _)); have HB7 := hide (HB6.out.trans (hb7.mono HB6.out.size)); have hs7 := Nat.le_trans hs6 hb7.size; clear hr7 hb7 tok5 ND6 HR6 f0 f1 f2 f3 f4 f5 f6 f7 f8 f9)
          | (go_at_call 22; have _t := tok6; refine (sameInt_any _ _ _ (x - y) (x - y) 9 25 (by exact ND7.out) (by exact HR7.out)).mono ?_; rintro e w8 ⟨rfl, hb8⟩; rw [decide_eq_true rfl]; have k0 := (hb8.cell (p := ⟨sb, soff + i * 2, none⟩) (Nat.lt_of_lt_of_le ls hs7)).trans g0; have k1 := (hb8.cell (p := ⟨sb, soff + i * 2 + 1, none⟩) (Nat.lt_of_lt_of_le ls hs7)).trans g1; have k2 := (hb8.cell (p := ⟨db, doff + i * 2, none⟩) (Nat.lt_of_lt_of_le ld hs7)).trans g2; have k3 := (hb8.cell (p := ⟨db, doff + i * 2 + 1, none⟩) (Nat.lt_of_lt_of_le ld hs7)).trans g3; have k4 := (hb8.cell (p := ⟨xb, 0, none⟩) (Nat.lt_of_lt_of_le lx hs7)).trans g4; have k5 := (hb8.cell (p := ⟨xb, 1, none⟩) (Nat.lt_of_lt_of_le lx hs7)).trans g5; have k6 := (hb8.cell (p := ⟨x0b, i * 2, none⟩) (Nat.lt_of_lt_of_le lx0 hs7)).trans g6; have k7 := (hb8.cell (p := ⟨x0b, i * 2 + 1, none⟩) (Nat.lt_of_lt_of_le lx0 hs7)).trans g7; have k8 := (hb8.cell (p := ⟨x1b, i * 2, none⟩) (Nat.lt_of_lt_of_le lx1 hs7)).trans g8; have k9 := (hb8.cell (p := ⟨x1b, i * 2 + 1, none⟩) (Nat.lt_of_lt_of_le lx1 hs7)).trans g9; have HB8 := hide (HB7.out.trans (hb8.mono HB7.out.size)); clear hb8 tok6 ND7 HR7 g0 g1 g2 g3 g4 g5 g6 g7 g8 g9))
      clear a0 a1 a2 a3 a4 a5 a6 a7 a8 a9 k0 k1 k2 k3 k4 k5 k6 k7 k8 k9 NS ND NX NY
      go_wp2
      go_roundw
      case rel => exact ⟨i + 1, by omega, by go_num, HB8.out⟩
      case measure => simp [intOf]; omega
    · obtain rfl : i = xs.length := by omega
      have HBW := hide (HBE.out.trans (HBI.out.mono HBE.out.size))
      have HXW := hide (HX.out.below HBI.out (Nat.le_refl _))
      have HKW := hide (HKB.out.later HBI.out hks)
      have lk : w.heap.size < wr.heap.size := Nat.lt_of_lt_of_le hks HBI.out.size
      clear HVS HVD HZS HZD HBI HX HKB HBE
      go_upto_region 27 with fail
      go_cut [24] from 33 (fun v wc => VecN wc v (xs.map (z * ·)) 16 ∧ Below wr.heap.size wr wc)
      case first =>
        obtain ⟨kk0, kk1, -, -⟩ := HKW.out
        go_wp2_with fail
        refine (scaleV_any wr _ _ z xs 8 8 (HK.out.below HBW.out (Nat.le_refl _)) (HA.out.below HBW.out (Nat.le_refl _)) (by omega) (by decide) (by decide)).mono ?_
        rintro e w9 ⟨P, rfl, hv⟩
        have HV := hide hv
        clear hv
        go_wp2
        go_meet
        case rel => exact ⟨by have h := HV.out.vec; rwa [List.length_map] at h, HV.out.below⟩
      case rest =>
      obtain ⟨hvt, hb9⟩ := hcut
      apply_assumption
      exact vecSays_E w _ _ _ _ _ _ kn ko kl kc z xs ys rss ys.length (HBW.out.trans (hb9.mono HBW.out.size)) HT.out HA.out HB.out rfl hy8 hx1 hx8 HM.out hr14 HR10.out HR8.out (HXW.out.below hb9 (Nat.le_refl _)) HK.out (HKW.out.later hb9 lk) (Nat.lt_of_lt_of_le lk hb9.size) hvt _ _ _ _ _ _ _ _ _ _ _ _ _ _ _ _ _ _ _ _ _ _ _ _ _ _ _ _ _ _ _ _ _ _ _ _ _ _ _ _ _ _ _ _ _ _ _ _ _ _ _ _ _ _ _ _ _ _ _ _ _ _ _ _ _ _ _ _ _ _ _ _ _ _ _ _ _ _ _ _ _ _ _ _ _ _ _ _ _ _ _ _ _ _ _ _ _ _ _ _ _ _ _ _ _ _ _ _ _ _ _ _ _ _ _ _ _ _ _ _ _ _ _ _ _ _ _ _ _ _ _ _ _ _ _ _ _ _ _ _ _ _ _ _ _ _ _ _ _ _ _ _ _ _ _ _ _ _ _ _ _ _ _ _ _ _ _ _ _ _ _ _ _ _ _ _ _ _ _ _ _ _ _ _ _ _ _ _ _ _ _ _ _ _ _ _ _ _ _ _ _ _ _ _ _ _ _ _ _ _ _ _ _ _ _ _ _ _ _ _ _ _ _ _ _ _ _ _ _ _ _ _ _ _ _ _ _ _ _ _ _ _ _ _ _ _ _ _ _ _ _ _ _ _ _ _ _ _ _ _ _ _ _ _ _ _ _ _ _ _ _ _ _ _ _ _ _ _ _ _ _ _ _ _ _ _ _ _ _ _ _ _ _ _ _ _ _ _ _ _ _ _ _ _ _ _ _ _ _ _ _ _ _ _ _ _ _ _ _ _ _ _ _ _ _ _ _ _ _ _ _ _ _ _ _ _ _ _ _ _ _ _ _ _ _ _ _ _ _ _ _ _ _ _ _ _ _ _ _ _ _ _ _ _

end Go.Proofs.YtklhmnejmbgmjabGreatDoor
