/- VecSays: the last part: so much of each row, by the document. -/
import Derived.Test.YtklhmnejmbgmjabGreatDoorVS0
namespace Go.Proofs.YtklhmnejmbgmjabGreatDoor
open Go.RowKit Limbs Digs

set_option linter.unusedSimpArgs false in
set_option maxRecDepth 100000 in
set_option maxHeartbeats 6400000 in
theorem vecSays_G (w W : World) (vb vm ev vx vc vy : Value) (xs ys : List Int) (zss : List (List Int)) (N : Nat) (hbe : Below w.heap.size w W) (hB : VecN w vb ys 8) (hN : ys.length = N) (hN8 : N ≤ 8) (hx8 : xs.length ≤ 8) (hM : MatN w vm zss 8) (hml : zss.length = xs.length) (hX : MatR W vx [xs, ys] 24) (hY : MatR W vy zss 24) (hout : (ev = .nilIface ∧ (∀ zs ∈ zss, zs.length = N) ∧ VecN W vc (combo xs zss N) 60) ∨ (ev = .iface 76 (.int .i64 6) ∧ vc = .slice none 0 0 ∧ ∃ zs ∈ zss, zs.length ≠ N)) (sl0 sl2 sl4 sl5 sl6 sl8 sl9 sl10 sl11 sl12 sl13 sl14 sl16 sl17 sl19 sl20 sl21 sl22 sl23 sl24 sl25 sl26 sl27 sl30 sl31 sl32 sl33 sl34 sl35 sl36 sl37 sl38 sl39 sl40 sl41 sl42 sl43 sl44 sl45 sl46 sl47 sl48 sl49 sl50 sl51 sl52 sl53 sl54 sl55 sl56 sl57 sl58 sl59 sl60 sl61 sl62 sl63 sl64 sl65 sl66 sl67 sl68 sl69 sl70 sl71 sl72 sl73 sl74 sl75 sl76 sl77 sl78 sl79 sl80 sl81 sl82 sl83 sl84 sl85 sl86 sl87 sl88 sl89 sl90 sl91 sl92 sl93 sl94 sl95 sl96 sl97 sl98 sl99 sl100 sl101 sl102 sl103 sl104 sl105 sl106 sl107 sl108 sl109 sl110 sl111 sl112 sl113 sl114 sl115 sl116 sl117 sl118 sl119 sl120 sl121 sl122 sl123 sl124 sl125 sl126 sl127 sl128 sl129 sl130 sl131 sl132 sl133 sl134 sl135 sl136 sl137 sl138 sl139 sl140 sl141 sl142 sl143 sl144 sl145 sl146 sl147 sl148 sl149 sl150 sl151 sl152 sl153 sl154 sl155 sl156 sl157 sl158 sl159 sl160 sl161 sl162 sl163 sl164 sl165 sl166 sl167 sl168 sl169 sl170 sl171 sl172 sl173 sl174 sl175 sl176 sl177 sl178 sl179 sl180 sl181 sl182 sl183 sl184 sl185 sl186 sl187 sl188 sl189 sl190 sl191 sl192 sl193 sl194 sl195 sl196 sl197 sl198 sl199 sl200 sl201 sl202 sl203 sl204 sl205 sl206 sl207 sl208 sl209 sl210 sl211 sl212 sl213 sl214 sl215 sl216 sl217 sl218 sl219 sl220 sl221 sl222 sl223 sl224 sl225 sl226 sl227 sl228 sl229 sl230 sl231 sl232 sl233 sl234 sl235 sl236 sl237 sl238 sl239 sl240 sl241 sl242 sl243 sl244 sl245 sl246 sl247 sl248 sl249 sl250 sl251 sl252 sl253 sl254 sl255 sl256 sl257 sl258 sl259 sl260 sl261 sl262 sl263 sl264 sl265 sl266 sl267 sl268 sl269 sl270 sl271 sl272 sl273 sl274 sl275 sl276 sl277 sl278 sl279 sl280 sl281 sl282 sl283 sl284 sl285 sl286 sl287 sl288 sl289 sl290 sl291 sl292 sl293 sl294 sl295 sl296 sl297 sl298 sl299 sl300 sl301 sl302 sl303 sl304 sl305 sl306 sl307 sl308 sl309 sl310 sl311 sl312 sl313 sl314 sl315 sl316 sl317 sl318 sl319 sl320 sl321 sl322 sl323 sl324 sl325 sl326 sl327 sl328 sl329 sl330 sl331 sl332 sl333 sl334 sl335 sl336 sl337 sl338 sl339 sl340 sl341 sl342 sl343 sl344 sl345 sl346 sl347 sl348 sl349 sl350 sl351 sl352 sl353 sl354 sl355 sl356 sl357 sl358 sl359 sl360 sl361 sl362 sl363 sl364 sl365 sl366 sl367 sl368 sl369 : Value) :
    (Code.tl (Code.tl (Code.tl (Code.tl (Code.tl (Code.tl (Code.tl (Code.tl (Code.tl (Code.tl (Code.tl (Code.tl (Code.tl (Code.tl (Code.tl (Code.tl (Code.tl (Code.tl (Code.tl (Code.tl (Code.tl (Code.tl ((Tryz.f3.body).getD .skip))))))))))))))))))))))).wp Tryz.prog (bodyPost Tryz.prog Tryz.f3 (fun e w' => e = .returned (.bool true) ∧ Below w.heap.size w w')) ⟨#[sl0, vb, sl2, vm, sl4, sl5, sl6, .pointer (some ⟨w.heap.size, 0, none⟩), sl8, sl9, sl10, sl11, sl12, sl13, sl14, ev, sl16, sl17, vx, sl19, sl20, sl21, sl22, sl23, sl24, sl25, sl26, sl27, vc, vy, sl30, sl31, sl32, sl33, sl34, sl35, sl36, sl37, sl38, sl39, sl40, sl41, sl42, sl43, sl44, sl45, sl46, sl47, sl48, sl49, sl50, sl51, sl52, sl53, sl54, sl55, sl56, sl57, sl58, sl59, sl60, sl61, sl62, sl63, sl64, sl65, sl66, sl67, sl68, sl69, sl70, sl71, sl72, sl73, sl74, sl75, sl76, sl77, sl78, sl79, sl80, sl81, sl82, sl83, sl84, sl85, sl86, sl87, sl88, sl89, sl90, sl91, sl92, sl93, sl94, sl95, sl96, sl97, sl98, sl99, sl100, sl101, sl102, sl103, sl104, sl105, sl106, sl107, sl108, sl109, sl110, sl111, sl112, sl113, sl114, sl115, sl116, sl117, sl118, sl119, sl120, sl121, sl122, sl123, sl124, sl125, sl126, sl127, sl128, sl129, sl130, sl131, sl132, sl133, sl134, sl135, sl136, sl137, sl138, sl139, sl140, sl141, sl142, sl143, sl144, sl145, sl146, sl147, sl148, sl149, sl150, sl151, sl152, sl153, sl154, sl155, sl156, sl157, sl158, sl159, sl160, sl161, sl162, sl163, sl164, sl165, sl166, sl167, sl168, sl169, sl170, sl171, sl172, sl173, sl174, sl175, sl176, sl177, sl178, sl179, sl180, sl181, sl182, sl183, sl184, sl185, sl186, sl187, sl188, sl189, sl190, sl191, sl192, sl193, sl194, sl195, sl196, sl197, sl198, sl199, sl200, sl201, sl202, sl203, sl204, sl205, sl206, sl207, sl208, sl209, sl210, sl211, sl212, sl213, sl214, sl215, sl216, sl217, sl218, sl219, sl220, sl221, sl222, sl223, sl224, sl225, sl226, sl227, sl228, sl229, sl230, sl231, sl232, sl233, sl234, sl235, sl236, sl237, sl238, sl239, sl240, sl241, sl242, sl243, sl244, sl245, sl246, sl247, sl248, sl249, sl250, sl251, sl252, sl253, sl254, sl255, sl256, sl257, sl258, sl259, sl260, sl261, sl262, sl263, sl264, sl265, sl266, sl267, sl268, sl269, sl270, sl271, sl272, sl273, sl274, sl275, sl276, sl277, sl278, sl279, sl280, sl281, sl282, sl283, sl284, sl285, sl286, sl287, sl288, sl289, sl290, sl291, sl292, sl293, sl294, sl295, sl296, sl297, sl298, sl299, sl300, sl301, sl302, sl303, sl304, sl305, sl306, sl307, sl308, sl309, sl310, sl311, sl312, sl313, sl314, sl315, sl316, sl317, sl318, sl319, sl320, sl321, sl322, sl323, sl324, sl325, sl326, sl327, sl328, sl329, sl330, sl331, sl332, sl333, sl334, sl335, sl336, sl337, sl338, sl339, sl340, sl341, sl342, sl343, sl344, sl345, sl346, sl347, sl348, sl349, sl350, sl351, sl352, sl353, sl354, sl355, sl356, sl357, sl358, sl359, sl360, sl361, sl362, sl363, sl364, sl365, sl366, sl367, sl368, sl369], []⟩ W := by
  simp only [Code.tl, Tryz.f3, Option.getD_some]
  have HB := hide hB; have HM := hide hM; have HX1 := hide hX; have HO1 := hide hout; have HB1 := hide hbe; have HY := hide hY
  have hzl : zss.length ≤ 8 := by omega
  have HML := hide hml
  obtain ⟨bo, bcap, rfl, -, -⟩ := hB
  obtain ⟨mo, mcap, rfl, -, -⟩ := hM
  rw [hN]
  obtain ⟨xb, xcap, exx, -⟩ := hX.at 0 (by simp)
  have exx' : vx = .slice (some ⟨xb, 0, none⟩) 2 xcap := exx
  subst exx'
  clear hX hout hbe hml exx hY
  generalize W = w1 at *
  have hmk := run_mkR N (by omega)
  have HI := hide (RowO.made w1 w1 (Below.refl _ _) N (fun _ => 49 + 0))
  rw [← tot_zero xs zss N] at HI
  obtain ⟨yo, ycap, rfl, -, -⟩ := HY.out
  go_wp2
  clear hmk
  go_loopw [31] (fun iv wr => ∃ i : Nat, i ≤ zss.length ∧ iv = .int .i64 i ∧ RowO w1 wr w1.heap.size (tot xs zss N i) (fun _ => 49 + i) ∧ Hid (∀ zs ∈ zss.take i, zs.length = N)) (fun iv _ => zss.length - (intOf iv).toNat)
  case atStart => exact ⟨0, Nat.zero_le _, rfl, HI.out, fun zs h => by simp at h⟩
  case round =>
    clear HI
    obtain ⟨i, hi, rfl, hinv, HG⟩ := hrel
    have HI := hide hinv
    clear hinv
    by_cases hil : i < zss.length
    · obtain ⟨mb, moff, _, e, lm, u, cu, hu⟩ := (HM.out.below (HB1.out.trans (HI.out.below.mono HB1.out.size)) (Nat.le_refl _)).at i hil
      simp only [Value.slice.injEq, true_and] at e
      obtain ⟨rfl, rfl⟩ := e
      have HT : Hid (zss[i].length = N → ∀ zs ∈ zss.take (i + 1), zs.length = N) := fun h zs hz => by
        rw [List.take_succ_eq_append_getElem hil] at hz
        rcases List.mem_append.1 hz with h' | h'
        · exact HG.out zs h'
        · rw [List.mem_singleton] at h'; rw [h']; exact h
      have HPS := hide (fun j => psum_step xs zss j i hil)
      obtain ⟨yb, _, e, ly0, yu, cy0, hyr0⟩ := HY.out.at i hil
      simp only [Value.slice.injEq, true_and] at e
      obtain ⟨rfl, rfl⟩ := e
      have HBAD : Hid (zss[i].length ≠ N → ev = .iface 76 (.int .i64 6) ∧ vc = .slice none 0 0) := fun h => by
        rcases HO1.out with ⟨-, h2, -⟩ | ⟨h1, h2, -⟩
        · exact absurd (h2 _ (List.getElem_mem hil)) h
        · exact ⟨h1, h2⟩
      have hix : i < xs.length := by have := HML.out; omega
      generalize zss[i] = zs at *
      obtain ⟨zo, zcap, rfl, -, -⟩ := hu
      by_cases hzN : zs.length = N
      · have HG' := hide (HT.out hzN)
        rw [hzN] at cu
        have hNN : ((N : Int) != (N : Int)) = false := by simp
        have HYR := hide hyr0
        have HM0 : Hid (RowO w1 wr w1.heap.size (mid xs zss N i 0) (fun q => if q < 0 then 49 + (i + 1) else 49 + i)) := by
          rw [mid_zero]; exact HI.out.mono (fun q _ => by rw [if_neg (by omega)]; exact Nat.le_refl _)
        clear HT HG HBAD hyr0
        go_wp2
        obtain ⟨wo, rfl⟩ : ∃ wo : World, wo = wr := ⟨_, rfl⟩
        go_loopw [32] (fun jv wr => ∃ j : Nat, j ≤ N ∧ jv = .int .i64 j ∧ RowO w1 wr w1.heap.size (mid xs zss N i j) (fun q => if q < j then 49 + (i + 1) else 49 + i)) (fun jv _ => N - (intOf jv).toNat)
        case atStart => exact ⟨0, Nat.zero_le _, rfl, HM0.out⟩
        case round =>
          clear HM0 HI
          obtain ⟨j, hj, rfl, hinv⟩ := hrel
          have HI := hide hinv
          clear hinv
          by_cases hjl : j < N
          · have hbw : Below w1.heap.size w1 wr := HI.out.below
            have hml := mid_len xs zss N i j hj
            obtain ⟨ts, to, tl, tc, a0, a1, nt⟩ := HI.out.cells j (by rw [hml]; exact hjl)
            rw [mid_at xs zss N i j hjl, if_neg (Nat.lt_irrefl _)] at nt
            have HMS := hide (mid_step xs zss N i j hjl)
            rw [HPS.out j] at HMS
            obtain ⟨_, _, e, lx, xu, a2, hxr⟩ := (HX1.out.below hbw (Nat.le_refl _)).at 0 (by simp)
            simp only [Value.slice.injEq, Option.some.injEq, Addr.mk.injEq, and_true] at e
            obtain ⟨rfl, -, rfl⟩ := e
            obtain ⟨x0b, x0c, e2, lx0, ps, po, pl, pc, a3, a4, nx⟩ := RowR.at hxr i (by exact hix)
            obtain ⟨yrb, yrc, e3, lyr, qs, qo, ql, qc, a6, a7, ny⟩ := (HYR.out.below hbw (Nat.le_refl _)).at j (by omega)
            have a5 := (hbw.cell (p := ⟨yb, i, none⟩) ly0).trans cy0
            have ly : yb < wr.heap.size := Nat.lt_of_lt_of_le ly0 hbw.size
            have lP := HI.out.lt
            rw [e2] at a2
            rw [e3, hzN] at a5
            have NT := hide nt; have NX : Hid (NumR wr (.agg #[.int .i64 ps, .slice po pl pc]) (xs.getD i 0) 24) := nx
            have NY := hide ny
            have a2' : wr.cell? ⟨xb, 0, none⟩ = some (.slice (some ⟨x0b, 0, none⟩) xs.length x0c) := a2
            clear nt nx ny hxr hbw a2
            have a2 := a2'
            clear a2'
            generalize xs.getD i 0 = x at *
            generalize zs.getD j 0 = y at *
            generalize psum xs zss j i = t at *
            go_wp2_with fail
            refine upto_start (S := (fun w' => w'.cell? ⟨w1.heap.size, j * 2, none⟩ = some (.int .i64 ts) ∧ w'.cell? ⟨w1.heap.size, j * 2 + 1, none⟩ = some (.slice to tl tc) ∧ w'.cell? ⟨xb, 0, none⟩ = some (.slice (some ⟨x0b, 0, none⟩) xs.length x0c) ∧ w'.cell? ⟨x0b, i * 2, none⟩ = some (.int .i64 ps) ∧ w'.cell? ⟨x0b, i * 2 + 1, none⟩ = some (.slice po pl pc) ∧ w'.cell? ⟨yb, i, none⟩ = some (.slice (some ⟨yrb, 0, none⟩) N yrc) ∧ w'.cell? ⟨yrb, j * 2, none⟩ = some (.int .i64 qs) ∧ w'.cell? ⟨yrb, j * 2 + 1, none⟩ = some (.slice qo ql qc))) (k := 22) (by kernel_rfl) (by (try dsimp only); go_keep) (fun hHeld => ?_)
            refine upto_run (v := ?_) 0 337 [21, 22] rfl rfl (by kernel_rfl) (by kernel_rfl) (by kernel_rfl) (by kernel_rfl) (by kernel_rfl) (fun _ _ _ h => h) (by rfl) ?_ (by assumption) ?_
            rotate_left
            · (intro w hSw; (try dsimp only at hSw); go_simp; with_reducible rfl)
            simp only [Act.put, List.setIfInBounds_toArray, List.set_cons_zero, List.set_cons_succ]
            refine upto_run (v := ?_) 1 338 [21, 22] rfl rfl (by kernel_rfl) (by kernel_rfl) (by kernel_rfl) (by kernel_rfl) (by kernel_rfl) (fun _ _ _ h => h) (by rfl) ?_ (by assumption) ?_
            rotate_left
            · (intro w hSw; (try dsimp only at hSw); go_simp; with_reducible rfl)
            simp only [Act.put, List.setIfInBounds_toArray, List.set_cons_zero, List.set_cons_succ]
            refine upto_run (v := ?_) 2 339 [4, 5, 20, 22] rfl rfl (by kernel_rfl) (by kernel_rfl) (by kernel_rfl) (by kernel_rfl) (by kernel_rfl) (fun _ _ _ h => h) (by rfl) ?_ (by assumption) ?_
            rotate_left
            · (intro w hSw; (try dsimp only at hSw); go_simp; with_reducible rfl)
            simp only [Act.put, List.setIfInBounds_toArray, List.set_cons_zero, List.set_cons_succ]
            refine upto_run (v := ?_) 3 340 [4, 5, 20, 22] rfl rfl (by kernel_rfl) (by kernel_rfl) (by kernel_rfl) (by kernel_rfl) (by kernel_rfl) (fun _ _ _ h => h) (by rfl) ?_ (by assumption) ?_
            rotate_left
            · (intro w hSw; (try dsimp only at hSw); go_simp; with_reducible rfl)
            simp only [Act.put, List.setIfInBounds_toArray, List.set_cons_zero, List.set_cons_succ]
            refine upto_run (v := ?_) 4 341 [5, 20, 22] rfl rfl (by kernel_rfl) (by kernel_rfl) (by kernel_rfl) (by kernel_rfl) (by kernel_rfl) (fun _ _ _ h => h) (by rfl) ?_ (by assumption) ?_
            rotate_left
            · (intro w hSw; (try dsimp only at hSw); go_simp; with_reducible rfl)
            simp only [Act.put, List.setIfInBounds_toArray, List.set_cons_zero, List.set_cons_succ]
            refine upto_run (v := ?_) 5 342 [20, 22] rfl rfl (by kernel_rfl) (by kernel_rfl) (by kernel_rfl) (by kernel_rfl) (by kernel_rfl) (fun _ _ _ h => h) (by rfl) ?_ (by assumption) ?_
            rotate_left
            · (intro w hSw; (try dsimp only at hSw); go_simp; with_reducible rfl)
            simp only [Act.put, List.setIfInBounds_toArray, List.set_cons_zero, List.set_cons_succ]
            refine upto_run (v := ?_) 6 343 [7, 8, 10, 11, 19, 20, 22] rfl rfl (by kernel_rfl) (by kernel_rfl) (by kernel_rfl) (by kernel_rfl) (by kernel_rfl) (fun _ _ _ h => h) (by rfl) ?_ (by assumption) ?_
            rotate_left
            · (intro w hSw; (try dsimp only at hSw); go_simp; with_reducible rfl)
            simp only [Act.put, List.setIfInBounds_toArray, List.set_cons_zero, List.set_cons_succ]
            refine upto_run (v := ?_) 7 344 [8, 10, 11, 19, 20, 22] rfl rfl (by kernel_rfl) (by kernel_rfl) (by kernel_rfl) (by kernel_rfl) (by kernel_rfl) (fun _ _ _ h => h) (by rfl) ?_ (by assumption) ?_
            rotate_left
            · (intro w hSw; (try dsimp only at hSw); go_simp; with_reducible rfl)
            simp only [Act.put, List.setIfInBounds_toArray, List.set_cons_zero, List.set_cons_succ]
            refine upto_run (v := ?_) 8 345 [10, 11, 19, 20, 22] rfl rfl (by kernel_rfl) (by kernel_rfl) (by kernel_rfl) (by kernel_rfl) (by kernel_rfl) (fun _ _ _ h => h) (by rfl) ?_ (by assumption) ?_
            rotate_left
            · (intro w hSw; (try dsimp only at hSw); go_simp; with_reducible rfl)
            simp only [Act.put, List.setIfInBounds_toArray, List.set_cons_zero, List.set_cons_succ]
            refine upto_run (v := ?_) 9 346 [10, 11, 19, 20, 22] rfl rfl (by kernel_rfl) (by kernel_rfl) (by kernel_rfl) (by kernel_rfl) (by kernel_rfl) (fun _ _ _ h => h) (by rfl) ?_ (by assumption) ?_
            rotate_left
            · (intro w hSw; (try dsimp only at hSw); go_simp; with_reducible rfl)
            simp only [Act.put, List.setIfInBounds_toArray, List.set_cons_zero, List.set_cons_succ]
            refine upto_run (v := ?_) 10 347 [11, 19, 20, 22] rfl rfl (by kernel_rfl) (by kernel_rfl) (by kernel_rfl) (by kernel_rfl) (by kernel_rfl) (fun _ _ _ h => h) (by rfl) ?_ (by assumption) ?_
            rotate_left
            · (intro w hSw; (try dsimp only at hSw); go_simp; with_reducible rfl)
            simp only [Act.put, List.setIfInBounds_toArray, List.set_cons_zero, List.set_cons_succ]
            refine upto_run (v := ?_) 11 348 [19, 20, 22] rfl rfl (by kernel_rfl) (by kernel_rfl) (by kernel_rfl) (by kernel_rfl) (by kernel_rfl) (fun _ _ _ h => h) (by rfl) ?_ (by assumption) ?_
            rotate_left
            · (intro w hSw; (try dsimp only at hSw); go_simp; with_reducible rfl)
            simp only [Act.put, List.setIfInBounds_toArray, List.set_cons_zero, List.set_cons_succ]
            refine upto_run (v := ?_) 12 349 [14, 15, 17, 18, 19, 20, 22] rfl rfl (by kernel_rfl) (by kernel_rfl) (by kernel_rfl) (by kernel_rfl) (by kernel_rfl) (fun _ _ _ h => h) (by rfl) ?_ (by assumption) ?_
            rotate_left
            · (intro w hSw; (try dsimp only at hSw); go_simp; with_reducible rfl)
            simp only [Act.put, List.setIfInBounds_toArray, List.set_cons_zero, List.set_cons_succ]
            refine upto_run (v := ?_) 13 350 [14, 15, 17, 18, 19, 20, 22] rfl rfl (by kernel_rfl) (by kernel_rfl) (by kernel_rfl) (by kernel_rfl) (by kernel_rfl) (fun _ _ _ h => h) (by rfl) ?_ (by assumption) ?_
            rotate_left
            · (intro w hSw; (try dsimp only at hSw); go_simp; with_reducible rfl)
            simp only [Act.put, List.setIfInBounds_toArray, List.set_cons_zero, List.set_cons_succ]
            refine upto_run (v := ?_) 14 351 [15, 17, 18, 19, 20, 22] rfl rfl (by kernel_rfl) (by kernel_rfl) (by kernel_rfl) (by kernel_rfl) (by kernel_rfl) (fun _ _ _ h => h) (by rfl) ?_ (by assumption) ?_
            rotate_left
            · (intro w hSw; (try dsimp only at hSw); go_simp; with_reducible rfl)
            simp only [Act.put, List.setIfInBounds_toArray, List.set_cons_zero, List.set_cons_succ]
            refine upto_run (v := ?_) 15 352 [17, 18, 19, 20, 22] rfl rfl (by kernel_rfl) (by kernel_rfl) (by kernel_rfl) (by kernel_rfl) (by kernel_rfl) (fun _ _ _ h => h) (by rfl) ?_ (by assumption) ?_
            rotate_left
            · (intro w hSw; (try dsimp only at hSw); go_simp; with_reducible rfl)
            simp only [Act.put, List.setIfInBounds_toArray, List.set_cons_zero, List.set_cons_succ]
            refine upto_run (v := ?_) 16 353 [17, 18, 19, 20, 22] rfl rfl (by kernel_rfl) (by kernel_rfl) (by kernel_rfl) (by kernel_rfl) (by kernel_rfl) (fun _ _ _ h => h) (by rfl) ?_ (by assumption) ?_
            rotate_left
            · (intro w hSw; (try dsimp only at hSw); go_simp; with_reducible rfl)
            simp only [Act.put, List.setIfInBounds_toArray, List.set_cons_zero, List.set_cons_succ]
            refine upto_run (v := ?_) 17 354 [18, 19, 20, 22] rfl rfl (by kernel_rfl) (by kernel_rfl) (by kernel_rfl) (by kernel_rfl) (by kernel_rfl) (fun _ _ _ h => h) (by rfl) ?_ (by assumption) ?_
            rotate_left
            · (intro w hSw; (try dsimp only at hSw); go_simp; with_reducible rfl)
            simp only [Act.put, List.setIfInBounds_toArray, List.set_cons_zero, List.set_cons_succ]
            refine upto_run (v := ?_) 18 355 [19, 20, 22] rfl rfl (by kernel_rfl) (by kernel_rfl) (by kernel_rfl) (by kernel_rfl) (by kernel_rfl) (fun _ _ _ h => h) (by rfl) ?_ (by assumption) ?_
            rotate_left
            · (intro w hSw; (try dsimp only at hSw); go_simp; with_reducible rfl)
            simp only [Act.put, List.setIfInBounds_toArray, List.set_cons_zero, List.set_cons_succ]
            refine upto_one 19 (by kernel_rfl) rfl (fun K hK => ?_)
            go_simp
            (refine (times_any _ _ _ x y 24 24 (by exact NX.out) (by exact NY.out) (by decide) (by decide)).mono ?_; rintro e w3 ⟨p, rfl, hp, hb⟩; have b0 := (hb.cell (p := ⟨w1.heap.size, j * 2, none⟩) lP).trans a0; have b1 := (hb.cell (p := ⟨w1.heap.size, j * 2 + 1, none⟩) lP).trans a1; have b2 := (hb.cell (p := ⟨xb, 0, none⟩) lx).trans a2; have b3 := (hb.cell (p := ⟨x0b, i * 2, none⟩) lx0).trans a3; have b4 := (hb.cell (p := ⟨x0b, i * 2 + 1, none⟩) lx0).trans a4; have b5 := (hb.cell (p := ⟨yb, i, none⟩) ly).trans a5; have b6 := (hb.cell (p := ⟨yrb, j * 2, none⟩) lyr).trans a6; have b7 := (hb.cell (p := ⟨yrb, j * 2 + 1, none⟩) lyr).trans a7; have HP := hide hp; have HI3 := hide (HI.out.drew.later hb); have NT3 := hide (NT.out.below (drewed hb) (Nat.le_refl _)); have hs3 := hb.size; clear hp hb)
            go_wp2_with fail
            refine hK.out _ _ (fun _ => by (try dsimp only); go_keep) ?_
            clear hK K
            try simp only [Act.put, List.setIfInBounds_toArray, List.set_cons_zero, List.set_cons_succ]
            refine upto_one 20 (by kernel_rfl) rfl (fun K hK => ?_)
            go_simp
            (refine (plus_any _ _ _ t (x * y) (49 + i) (by exact NT3.out) (HP.out.mono (by omega)) (by omega)).mono ?_; rintro e w4 ⟨p', rfl, hp', hb⟩; obtain ⟨rs, ro, rl, rc, rfl, -⟩ := hp'.form; have c0 := (hb.cell (p := ⟨w1.heap.size, j * 2, none⟩) (Nat.lt_of_lt_of_le lP hs3)).trans b0; have c1 := (hb.cell (p := ⟨w1.heap.size, j * 2 + 1, none⟩) (Nat.lt_of_lt_of_le lP hs3)).trans b1; have c2 := (hb.cell (p := ⟨xb, 0, none⟩) (Nat.lt_of_lt_of_le lx hs3)).trans b2; have c3 := (hb.cell (p := ⟨x0b, i * 2, none⟩) (Nat.lt_of_lt_of_le lx0 hs3)).trans b3; have c4 := (hb.cell (p := ⟨x0b, i * 2 + 1, none⟩) (Nat.lt_of_lt_of_le lx0 hs3)).trans b4; have c5 := (hb.cell (p := ⟨yb, i, none⟩) (Nat.lt_of_lt_of_le ly hs3)).trans b5; have c6 := (hb.cell (p := ⟨yrb, j * 2, none⟩) (Nat.lt_of_lt_of_le lyr hs3)).trans b6; have c7 := (hb.cell (p := ⟨yrb, j * 2 + 1, none⟩) (Nat.lt_of_lt_of_le lyr hs3)).trans b7; have HI4 := hide (HI3.out.later hb); have f0 := HI4.out.thaw (j * 2); have f1 := HI4.out.thaw (j * 2 + 1); have HN := hide (HI4.out.set (k := j) (by rw [hml]; omega) hp'); clear hb hp' HI HI3)
            go_wp2_with fail
            refine hK.out _ _ (fun _ => by (try dsimp only); go_keep) ?_
            clear hK K
            try simp only [Act.put, List.setIfInBounds_toArray, List.set_cons_zero, List.set_cons_succ]
            refine upto_one 21 (by kernel_rfl) rfl (fun K hK => ?_)
            go_simp
            refine hK.out _ _ (fun _ => by (try dsimp only); go_keep) ?_
            clear hK K
            try simp only [Act.put, List.setIfInBounds_toArray, List.set_cons_zero, List.set_cons_succ]
            refine upto_one 22 (by kernel_rfl) rfl (fun K hK => ?_)
            go_simp
            refine hK.out _ _ (fun h => absurd h (by decide)) ?_
            clear hK K
            try simp only [Act.put, List.setIfInBounds_toArray, List.set_cons_zero, List.set_cons_succ]
            refine upto_done (by kernel_rfl) ?_
            have HN' : Hid (RowO w1 ((w4.setCell ⟨w1.heap.size, j * 2, none⟩ (.int .i64 rs)).setCell ⟨w1.heap.size, j * 2 + 1, none⟩ (.slice ro rl rc)) w1.heap.size (mid xs zss N i (j + 1)) (fun q => if q < j + 1 then 49 + (i + 1) else 49 + i)) := by
              have := HN.out
              rw [HMS.out] at this
              refine this.mono (fun q _ => ?_)
              split
              · rw [if_pos (by omega)]; omega
              · split
                · rw [if_pos (by omega)]; exact Nat.le_refl _
                · split <;> omega
            clear a0 a1 a2 a3 a4 a5 a6 a7 b0 b1 b2 b3 b4 b5 b6 b7 c0 c1 c2 c3 c4 c5 c6 c7 f0 f1 HN HI4 HP NT3 NT NX NY HMS
            go_wp2
            go_roundw
            case rel => exact ⟨j + 1, by omega, by go_num, HN'.out⟩
            case measure => simp [intOf]; omega
          · obtain rfl : j = N := by omega
            have HN : Hid (RowO w1 wr w1.heap.size (tot xs zss j (i + 1)) (fun _ => 49 + (i + 1))) := by
              have := HI.out
              rw [mid_all] at this
              exact this.mono (fun q _ => by split <;> omega)
            clear HI HPS
            go_wp2
            go_roundw
            case rel => exact ⟨i + 1, by omega, by go_num, HN.out, HG'⟩
            case measure => simp [intOf]; omega
      · obtain ⟨rfl, rfl⟩ := HBAD.out hzN
        have hn1 : ((zs.length : Int) == (N : Int)) = false := by rw [beq_eq_false_iff_ne]; omega
        have hn2 : ((zs.length : Int) != (N : Int)) = true := by rw [bne_iff_ne]; omega
        have HBF := hide (HB1.out.trans (HI.out.below.mono HB1.out.size))
        clear HT HG HBAD HI HPS hzN hyr0 HO1
        go_wp2_with fail
        refine (same_of 6 (by decide) wr).mono ?_
        rintro e w2 ⟨rfl, rfl⟩
        go_wp2
        go_ret
        exact ⟨rfl, HBF.out⟩
    · obtain rfl : i = zss.length := by omega
      obtain ⟨rfl, -, hvc⟩ : ev = .nilIface ∧ (∀ zs ∈ zss, zs.length = N) ∧ VecN w1 vc (combo xs zss N) 60 := by
        rcases HO1.out with h | ⟨-, -, zs, hz, hne⟩
        · exact h
        · exact absurd (HG.out zs (by rw [List.take_length]; exact hz)) hne
      have HVC := hide (hvc.below HI.out.below (Nat.le_refl _))
      have HBF := hide (HB1.out.trans (HI.out.below.mono HB1.out.size))
      have HRW : Hid (RowR wr (.slice (some ⟨w1.heap.size, 0, none⟩) N N) (combo xs zss N) 57) := by
        have := HI.out.row (n := 57) (fun q _ => by omega)
        rw [tot_all, combo_len] at this
        exact this
      have hcl := combo_len xs zss N
      clear HI HO1 HG hvc
      generalize combo xs zss N = cm at *
      go_wp2_with fail
      have HMR : Hid (MatR (wr.alloc (.cells #[.slice (some ⟨w1.heap.size, 0, none⟩) N N] 54)) (.slice (some ⟨wr.heap.size, 0, none⟩) 1 1) [cm] 57) := by
        refine ⟨_, _, rfl, Nat.le_refl _, fun _ => ⟨_, rfl, by simp, fun q zs' hq => ?_⟩⟩
        obtain rfl : q = 0 := by
          have := (List.getElem?_eq_some_iff.1 hq).1
          simpa using this
        simp only [List.getElem?_cons_zero, Option.some.injEq] at hq
        subst hq
        exact ⟨_, by rw [World.cell?_alloc_new]; rfl, HRW.out.below ((Below.refl _ _).alloc (Nat.le_refl _) _) (Nat.le_refl _)⟩
      have hbA : Below wr.heap.size wr (wr.alloc (.cells #[.slice (some ⟨w1.heap.size, 0, none⟩) N N] 54)) := (Below.refl _ _).alloc (Nat.le_refl _) _
      have HVC2 := hide (HVC.out.below hbA (Nat.le_refl _))
      have HBF2 := hide (HBF.out.trans (hbA.mono HBF.out.size))
      clear hbA HRW HVC HBF
      generalize wr.alloc (.cells #[.slice (some ⟨w1.heap.size, 0, none⟩) N N] 54) = W5 at *
      refine (matOf_one W5 _ cm 57 HMR.out (by omega)).mono ?_
      rintro e w6 ⟨u, rfl, hu, hb6⟩
      have HVC6 := hide (HVC2.out.below hb6 (Nat.le_refl _))
      have HBF6 := hide (HBF2.out.trans (hb6.mono HBF2.out.size))
      clear hb6 HMR HVC2 HBF2
      obtain ⟨ub, uoff, ucap, rfl, lu, u0, cu0, hu0⟩ := hu.at 0 (by simp)
      have HU0 : Hid (VecN w6 u0 cm 57) := hu0
      have cu1 : w6.cell? ⟨ub, uoff, none⟩ = some u0 := by simpa using cu0
      clear hu hu0
      go_wp2_with fail
      refine (sameVec_any w6 vc u0 cm cm 60 57 HVC6.out HU0.out (by omega) true (by simp)).mono ?_
      rintro e w7 ⟨rfl, hb7⟩
      have HBF7 := hide (HBF6.out.trans (hb7.mono HBF6.out.size))
      clear hb7 HVC6 HU0 HBF6
      go_wp2
      go_ret
      exact ⟨rfl, HBF7.out⟩

end Go.Proofs.YtklhmnejmbgmjabGreatDoor
