/- BigSays: five pairs are the same; the number in 64 bits. -/
import Derived.Test.YtaijeimgbbpgiaaDoorBigSaysF
namespace Go.Proofs.YtaijeimgbbpgiaaDoor
open Go.RowKit Limbs Digs

set_option linter.unusedSimpArgs false in
set_option maxRecDepth 100000 in
set_option maxHeartbeats 6400000 in
theorem bigSays_G (w W : World) (ht : Tab w) (an bn : Bool) (ao bo : Option Addr) (ac bc : Nat) (a b : List Int) (xa xb : Int) (X Y : Nat) (xs : Int) (xo : Option Addr) (xl xc : Nat) (ys : Int) (yo : Option Addr) (yl yc : Nat) (H K : Nat) (p1n : Bool) (p1o : Option Addr) (p1l p1c : Nat) (p2n : Bool) (p2o : Option Addr) (p2l p2c : Nat) (p3n : Bool) (p3o : Option Addr) (p3l p3c : Nat) (p4n : Bool) (p4o : Option Addr) (p4l p4c : Nat) (p5n : Bool) (p5o : Option Addr) (p5l p5c : Nat) (q1s : Int) (q1o : Option Addr) (q1l q1c : Nat) (q2s : Int) (q2o : Option Addr) (q2l q2c : Nat) (q3s : Int) (q3o : Option Addr) (q3l q3c : Nat) (q4s : Int) (q4o : Option Addr) (q4l q4c : Nat) (q5s : Int) (q5o : Option Addr) (q5l q5c : Nat)
    (hxa : NumL w (.agg #[.bool an, .slice ao a.length ac]) xa 12) (hxb : NumL w (.agg #[.bool bn, .slice bo b.length bc]) xb 12)
    (h0 : BS w W (.bool an) (.slice ao a.length ac) (.bool bn) (.slice bo b.length bc)) (hx0 : RVar W X ⟨xs, xo, xl, xc⟩ xa 36) (hy0 : RVar W Y ⟨ys, yo, yl, yc⟩ xb 36) (hg : FiveL W H ⟨p1n, p1o, p1l, p1c⟩ ⟨p2n, p2o, p2l, p2c⟩ ⟨p3n, p3o, p3l, p3c⟩ ⟨p4n, p4o, p4l, p4c⟩ ⟨p5n, p5o, p5l, p5c⟩ (-xa) (if xa < 0 then -xa else xa) (xa + xb) (xa - xb) (xa * xb)) (hq : FiveR W K ⟨q1s, q1o, q1l, q1c⟩ ⟨q2s, q2o, q2l, q2c⟩ ⟨q3s, q3o, q3l, q3c⟩ ⟨q4s, q4o, q4l, q4c⟩ ⟨q5s, q5o, q5l, q5c⟩ (-xa) (if xa < 0 then -xa else xa) (xa + xb) (xa - xb) (xa * xb))
    (sl0 sl1 sl2 sl5 sl6 sl7 sl8 sl9 sl13 sl15 sl16 sl17 sl18 sl19 sl20 sl21 sl22 sl23 sl24 sl25 sl26 sl27 sl28 sl29 sl30 sl31 sl32 sl33 sl34 sl35 sl36 sl37 sl38 sl39 sl40 sl41 sl42 sl43 sl44 sl45 sl46 sl47 sl48 sl49 sl50 sl51 sl52 sl53 sl54 sl55 sl56 sl57 sl58 sl59 sl60 sl61 sl62 sl63 sl64 sl65 sl66 sl67 sl68 sl69 sl70 sl71 sl72 sl73 sl74 sl75 sl76 sl77 sl78 sl79 sl80 sl81 sl82 sl83 sl84 sl85 sl86 sl87 sl88 sl89 sl90 sl91 sl92 sl93 sl94 sl95 sl96 sl97 sl98 sl99 sl100 sl101 sl102 sl103 sl104 sl105 sl106 sl107 sl108 sl109 sl110 sl111 sl112 sl113 sl114 sl115 sl116 sl117 sl118 sl119 sl120 sl121 sl122 sl123 sl124 sl125 sl126 sl127 sl128 sl129 sl130 sl131 sl132 sl133 sl134 sl135 sl136 sl137 sl138 sl139 sl140 sl141 sl142 sl143 sl144 sl145 sl146 sl147 sl148 sl149 sl150 sl151 sl152 sl153 sl154 sl155 sl156 sl157 sl158 sl159 sl160 sl161 sl162 sl163 sl164 sl165 sl166 sl167 sl168 sl169 sl170 sl171 sl172 sl173 sl174 sl175 sl176 sl177 sl178 sl179 sl180 sl181 sl182 sl183 sl184 sl185 sl186 sl187 sl188 sl189 sl190 sl191 sl192 sl193 sl194 sl195 sl196 sl197 sl198 sl199 sl200 sl201 sl202 sl203 sl204 sl205 sl206 sl207 sl208 sl209 sl210 sl211 sl212 sl213 sl214 sl215 sl216 sl217 sl218 sl219 sl220 sl221 sl222 sl223 sl224 sl225 sl226 sl227 sl228 sl229 sl230 sl231 sl232 sl233 sl234 sl235 sl236 sl237 sl238 sl239 sl240 sl241 sl242 sl243 sl244 sl245 sl246 sl247 sl248 sl249 sl250 sl251 sl252 sl253 sl254 sl255 sl256 sl257 sl258 sl259 sl260 sl261 sl262 sl263 sl264 sl265 sl266 sl267 sl268 sl269 sl270 sl271 sl272 sl273 sl274 sl275 sl276 sl277 sl278 sl279 sl280 sl281 sl282 : Value) :
    (Code.tl (Code.tl (Code.tl (Code.tl (Code.tl (Code.tl (Code.tl (Code.tl (Code.tl (Code.tl (Code.tl (Code.tl (Code.tl ((Tryd.f4.body).getD .skip)))))))))))))).wp Tryd.prog (bodyPost Tryd.prog Tryd.f4 (fun e w' => e = .returned (.bool true) ∧ Below w.heap.size w w')) ⟨#[sl0, sl1, sl2, .pointer (some ⟨w.heap.size, 0, none⟩), .pointer (some ⟨w.heap.size + 1, 0, none⟩), sl5, sl6, sl7, sl8, sl9, .pointer (some ⟨X, 0, none⟩), .pointer (some ⟨Y, 0, none⟩), .slice (some ⟨H, 0, none⟩) 5 5, sl13, .slice (some ⟨K, 0, none⟩) 5 5, sl15, sl16, sl17, sl18, sl19, sl20, sl21, sl22, sl23, sl24, sl25, sl26, sl27, sl28, sl29, sl30, sl31, sl32, sl33, sl34, sl35, sl36, sl37, sl38, sl39, sl40, sl41, sl42, sl43, sl44, sl45, sl46, sl47, sl48, sl49, sl50, sl51, sl52, sl53, sl54, sl55, sl56, sl57, sl58, sl59, sl60, sl61, sl62, sl63, sl64, sl65, sl66, sl67, sl68, sl69, sl70, sl71, sl72, sl73, sl74, sl75, sl76, sl77, sl78, sl79, sl80, sl81, sl82, sl83, sl84, sl85, sl86, sl87, sl88, sl89, sl90, sl91, sl92, sl93, sl94, sl95, sl96, sl97, sl98, sl99, sl100, sl101, sl102, sl103, sl104, sl105, sl106, sl107, sl108, sl109, sl110, sl111, sl112, sl113, sl114, sl115, sl116, sl117, sl118, sl119, sl120, sl121, sl122, sl123, sl124, sl125, sl126, sl127, sl128, sl129, sl130, sl131, sl132, sl133, sl134, sl135, sl136, sl137, sl138, sl139, sl140, sl141, sl142, sl143, sl144, sl145, sl146, sl147, sl148, sl149, sl150, sl151, sl152, sl153, sl154, sl155, sl156, sl157, sl158, sl159, sl160, sl161, sl162, sl163, sl164, sl165, sl166, sl167, sl168, sl169, sl170, sl171, sl172, sl173, sl174, sl175, sl176, sl177, sl178, sl179, sl180, sl181, sl182, sl183, sl184, sl185, sl186, sl187, sl188, sl189, sl190, sl191, sl192, sl193, sl194, sl195, sl196, sl197, sl198, sl199, sl200, sl201, sl202, sl203, sl204, sl205, sl206, sl207, sl208, sl209, sl210, sl211, sl212, sl213, sl214, sl215, sl216, sl217, sl218, sl219, sl220, sl221, sl222, sl223, sl224, sl225, sl226, sl227, sl228, sl229, sl230, sl231, sl232, sl233, sl234, sl235, sl236, sl237, sl238, sl239, sl240, sl241, sl242, sl243, sl244, sl245, sl246, sl247, sl248, sl249, sl250, sl251, sl252, sl253, sl254, sl255, sl256, sl257, sl258, sl259, sl260, sl261, sl262, sl263, sl264, sl265, sl266, sl267, sl268, sl269, sl270, sl271, sl272, sl273, sl274, sl275, sl276, sl277, sl278, sl279, sl280, sl281, sl282], []⟩ W := by
  simp only [Code.tl, Tryd.f4, Option.getD_some]
  have NA := hide hxa; have NB := hide hxb; have HTB := hide ht
  clear hxa hxb ht
  have h16 := hide h0; have HX16 := hide hx0; have HY16 := hide hy0; have HG16 := hide hg; have HQ16 := hide hq
  clear h0 hx0 hy0 hg hq
  generalize W = W16 at *
  go_wp2
  go_loopw [15] (fun v wr => ∃ (i : Nat), i ≤ 5 ∧ v = .int .i64 i ∧ BS w wr (.bool an) (.slice ao a.length ac) (.bool bn) (.slice bo b.length bc) ∧ RVar wr X ⟨xs, xo, xl, xc⟩ xa 36 ∧ RVar wr Y ⟨ys, yo, yl, yc⟩ xb 36 ∧ FiveL wr H ⟨p1n, p1o, p1l, p1c⟩ ⟨p2n, p2o, p2l, p2c⟩ ⟨p3n, p3o, p3l, p3c⟩ ⟨p4n, p4o, p4l, p4c⟩ ⟨p5n, p5o, p5l, p5c⟩ (-xa) (if xa < 0 then -xa else xa) (xa + xb) (xa - xb) (xa * xb) ∧ FiveR wr K ⟨q1s, q1o, q1l, q1c⟩ ⟨q2s, q2o, q2l, q2c⟩ ⟨q3s, q3o, q3l, q3c⟩ ⟨q4s, q4o, q4l, q4c⟩ ⟨q5s, q5o, q5l, q5c⟩ (-xa) (if xa < 0 then -xa else xa) (xa + xb) (xa - xb) (xa * xb)) (fun v _ => 5 - (intOf v).toNat)
  case atStart => exact ⟨0, by omega, rfl, h16.out, HX16.out, HY16.out, HG16.out, HQ16.out⟩
  case round =>
  clear h16 HX16 HY16 HG16 HQ16
  obtain ⟨i, hi, rfl, h16, HX16, HY16, HG16, HQ16⟩ := hrel
  have h16 := hide h16; have HX16 := hide HX16; have HY16 := hide HY16; have HG16 := hide HG16; have HQ16 := hide HQ16
  rcases (by omega : i = 0 ∨ i = 1 ∨ i = 2 ∨ i = 3 ∨ i = 4 ∨ i = 5) with rfl | rfl | rfl | rfl | rfl | rfl
  · have c0 := row_cell HG16.out.row 0 _ rfl
    have c1 := row_cell HG16.out.row 1 _ rfl
    have d0 := row_cell HQ16.out.row 0 _ rfl
    have d1 := row_cell HQ16.out.row 1 _ rfl
    try dsimp only at c0 c1 d0 d1
    go_wp2_with fail
    refine wp_region_held_drew (S := (fun w' => w'.cell? ⟨H, 0, none⟩ = some (.bool p1n) ∧ w'.cell? ⟨H, 1, none⟩ = some (.slice p1o p1l p1c) ∧ w'.cell? ⟨K, 0, none⟩ = some (.int .i64 q1s) ∧ w'.cell? ⟨K, 1, none⟩ = some (.slice q1o q1l q1c))) (by kernel_rfl) (by (try dsimp only); go_keep) (fun hHeld => ?_)
    refine held_run (v := ?_) 0 170 rfl rfl (by kernel_rfl) (by kernel_rfl) (by kernel_rfl) (fun _ _ _ h => h) (by rfl) ?_ (by assumption) ?_
    rotate_left
    · (intro w hSw; (try dsimp only at hSw); go_simp; with_reducible rfl)
    simp only [Act.put, List.setIfInBounds_toArray, List.set_cons_zero, List.set_cons_succ]
    refine held_run (v := ?_) 1 171 rfl rfl (by kernel_rfl) (by kernel_rfl) (by kernel_rfl) (fun _ _ _ h => h) (by rfl) ?_ (by assumption) ?_
    rotate_left
    · (intro w hSw; (try dsimp only at hSw); go_simp; with_reducible rfl)
    simp only [Act.put, List.setIfInBounds_toArray, List.set_cons_zero, List.set_cons_succ]
    refine held_run (v := ?_) 2 172 rfl rfl (by kernel_rfl) (by kernel_rfl) (by kernel_rfl) (fun _ _ _ h => h) (by rfl) ?_ (by assumption) ?_
    rotate_left
    · (intro w hSw; (try dsimp only at hSw); go_simp; with_reducible rfl)
    simp only [Act.put, List.setIfInBounds_toArray, List.set_cons_zero, List.set_cons_succ]
    refine held_run (v := ?_) 3 173 rfl rfl (by kernel_rfl) (by kernel_rfl) (by kernel_rfl) (fun _ _ _ h => h) (by rfl) ?_ (by assumption) ?_
    rotate_left
    · (intro w hSw; (try dsimp only at hSw); go_simp; with_reducible rfl)
    simp only [Act.put, List.setIfInBounds_toArray, List.set_cons_zero, List.set_cons_succ]
    refine held_run (v := ?_) 4 174 rfl rfl (by kernel_rfl) (by kernel_rfl) (by kernel_rfl) (fun _ _ _ h => h) (by rfl) ?_ (by assumption) ?_
    rotate_left
    · (intro w hSw; (try dsimp only at hSw); go_simp; with_reducible rfl)
    simp only [Act.put, List.setIfInBounds_toArray, List.set_cons_zero, List.set_cons_succ]
    refine held_run (v := ?_) 5 175 rfl rfl (by kernel_rfl) (by kernel_rfl) (by kernel_rfl) (fun _ _ _ h => h) (by rfl) ?_ (by assumption) ?_
    rotate_left
    · (intro w hSw; (try dsimp only at hSw); go_simp; with_reducible rfl)
    simp only [Act.put, List.setIfInBounds_toArray, List.set_cons_zero, List.set_cons_succ]
    refine held_run (v := ?_) 6 176 rfl rfl (by kernel_rfl) (by kernel_rfl) (by kernel_rfl) (fun _ _ _ h => h) (by rfl) ?_ (by assumption) ?_
    rotate_left
    · (intro w hSw; (try dsimp only at hSw); go_simp; with_reducible rfl)
    simp only [Act.put, List.setIfInBounds_toArray, List.set_cons_zero, List.set_cons_succ]
    refine held_run (v := ?_) 7 177 rfl rfl (by kernel_rfl) (by kernel_rfl) (by kernel_rfl) (fun _ _ _ h => h) (by rfl) ?_ (by assumption) ?_
    rotate_left
    · (intro w hSw; (try dsimp only at hSw); go_simp; with_reducible rfl)
    simp only [Act.put, List.setIfInBounds_toArray, List.set_cons_zero, List.set_cons_succ]
    refine wpAnyH_ready (rs := [8]) (by kernel_rfl) (by simp) (AllReadyH.cons (o := _) rfl (fun K hK => ?_) AllReadyH.nil)
    go_simp
    (refine (intR_any _ _ (-xa) 80 (by exact HQ16.out.n1)).mono ?_; rintro e w17 ⟨r, rfl, hr, hb⟩; have HR := hide hr; obtain ⟨⟨rn, ro, rl, rc⟩, rfl⟩ := hr.nm; clear hr; have h17 := hide (h16.out.drew.later hb); have HX17 := hide (HX16.out.drew.later hb); have HY17 := hide (HY16.out.drew.later hb); have HG17 := hide (HG16.out.drew.later hb); have HQ17 := hide (HQ16.out.drew.later hb); clear hb; have c170 := row_cell HG17.out.row 0 _ rfl; have c171 := row_cell HG17.out.row 1 _ rfl; have d170 := row_cell HQ17.out.row 0 _ rfl; have d171 := row_cell HQ17.out.row 1 _ rfl; try dsimp only at c170 c171 d170 d171)
    go_wp2_with fail
    refine hK.out _ _ (by (try dsimp only); go_keep) (fun hHeld => ?_)
    clear hK K
    try simp only [Act.put, List.setIfInBounds_toArray, List.set_cons_zero, List.set_cons_succ]
    refine wpAnyH_ready (rs := [9]) (by kernel_rfl) (by simp) (AllReadyH.cons (o := _) rfl (fun K hK => ?_) AllReadyH.nil)
    go_simp
    (refine (sameInt_true _ _ _ (-xa) 25 80 (by exact HG17.out.n1) HR.out).mono ?_; rintro e w18 ⟨rfl, hb⟩; have h18 := hide (h17.out.later hb); have HX18 := hide (HX17.out.later hb); have HY18 := hide (HY17.out.later hb); have HG18 := hide (HG17.out.later hb); have HQ18 := hide (HQ17.out.later hb); clear hb; have c180 := row_cell HG18.out.row 0 _ rfl; have c181 := row_cell HG18.out.row 1 _ rfl; have d180 := row_cell HQ18.out.row 0 _ rfl; have d181 := row_cell HQ18.out.row 1 _ rfl; try dsimp only at c180 c181 d180 d181)
    go_wp2_with fail
    refine hK.out _ _ (by (try dsimp only); go_keep) (fun hHeld => ?_)
    clear hK K
    try simp only [Act.put, List.setIfInBounds_toArray, List.set_cons_zero, List.set_cons_succ]
    refine held_run (v := ?_) 10 180 rfl rfl (by kernel_rfl) (by kernel_rfl) (by kernel_rfl) (fun _ _ _ h => h) (by rfl) ?_ (by assumption) ?_
    rotate_left
    · (intro w hSw; (try dsimp only at hSw); go_simp; with_reducible rfl)
    simp only [Act.put, List.setIfInBounds_toArray, List.set_cons_zero, List.set_cons_succ]
    refine wpAnyH_done (by kernel_rfl) ?_ _
    clear HR h16 h17 HX16 HX17 HY16 HY17 HG16 HG17 HQ16 HQ17 c0 c1 d0 d1 c170 c171 d170 d171 c180 c181 d180 d181 hHeld
    go_wp2
    go_roundw
    case rel => exact ⟨1, by omega, by go_num, h18.out, HX18.out, HY18.out, HG18.out, HQ18.out⟩
    case measure => simp [intOf]
  · have c0 := row_cell HG16.out.row 2 _ rfl
    have c1 := row_cell HG16.out.row 3 _ rfl
    have d0 := row_cell HQ16.out.row 2 _ rfl
    have d1 := row_cell HQ16.out.row 3 _ rfl
    try dsimp only at c0 c1 d0 d1
    go_wp2_with fail
    refine wp_region_held_drew (S := (fun w' => w'.cell? ⟨H, 2, none⟩ = some (.bool p2n) ∧ w'.cell? ⟨H, 3, none⟩ = some (.slice p2o p2l p2c) ∧ w'.cell? ⟨K, 2, none⟩ = some (.int .i64 q2s) ∧ w'.cell? ⟨K, 3, none⟩ = some (.slice q2o q2l q2c))) (by kernel_rfl) (by (try dsimp only); go_keep) (fun hHeld => ?_)
    refine held_run (v := ?_) 0 170 rfl rfl (by kernel_rfl) (by kernel_rfl) (by kernel_rfl) (fun _ _ _ h => h) (by rfl) ?_ (by assumption) ?_
    rotate_left
    · (intro w hSw; (try dsimp only at hSw); go_simp; with_reducible rfl)
    simp only [Act.put, List.setIfInBounds_toArray, List.set_cons_zero, List.set_cons_succ]
    refine held_run (v := ?_) 1 171 rfl rfl (by kernel_rfl) (by kernel_rfl) (by kernel_rfl) (fun _ _ _ h => h) (by rfl) ?_ (by assumption) ?_
    rotate_left
    · (intro w hSw; (try dsimp only at hSw); go_simp; with_reducible rfl)
    simp only [Act.put, List.setIfInBounds_toArray, List.set_cons_zero, List.set_cons_succ]
    refine held_run (v := ?_) 2 172 rfl rfl (by kernel_rfl) (by kernel_rfl) (by kernel_rfl) (fun _ _ _ h => h) (by rfl) ?_ (by assumption) ?_
    rotate_left
    · (intro w hSw; (try dsimp only at hSw); go_simp; with_reducible rfl)
    simp only [Act.put, List.setIfInBounds_toArray, List.set_cons_zero, List.set_cons_succ]
    refine held_run (v := ?_) 3 173 rfl rfl (by kernel_rfl) (by kernel_rfl) (by kernel_rfl) (fun _ _ _ h => h) (by rfl) ?_ (by assumption) ?_
    rotate_left
    · (intro w hSw; (try dsimp only at hSw); go_simp; with_reducible rfl)
    simp only [Act.put, List.setIfInBounds_toArray, List.set_cons_zero, List.set_cons_succ]
    refine held_run (v := ?_) 4 174 rfl rfl (by kernel_rfl) (by kernel_rfl) (by kernel_rfl) (fun _ _ _ h => h) (by rfl) ?_ (by assumption) ?_
    rotate_left
    · (intro w hSw; (try dsimp only at hSw); go_simp; with_reducible rfl)
    simp only [Act.put, List.setIfInBounds_toArray, List.set_cons_zero, List.set_cons_succ]
    refine held_run (v := ?_) 5 175 rfl rfl (by kernel_rfl) (by kernel_rfl) (by kernel_rfl) (fun _ _ _ h => h) (by rfl) ?_ (by assumption) ?_
    rotate_left
    · (intro w hSw; (try dsimp only at hSw); go_simp; with_reducible rfl)
    simp only [Act.put, List.setIfInBounds_toArray, List.set_cons_zero, List.set_cons_succ]
    refine held_run (v := ?_) 6 176 rfl rfl (by kernel_rfl) (by kernel_rfl) (by kernel_rfl) (fun _ _ _ h => h) (by rfl) ?_ (by assumption) ?_
    rotate_left
    · (intro w hSw; (try dsimp only at hSw); go_simp; with_reducible rfl)
    simp only [Act.put, List.setIfInBounds_toArray, List.set_cons_zero, List.set_cons_succ]
    refine held_run (v := ?_) 7 177 rfl rfl (by kernel_rfl) (by kernel_rfl) (by kernel_rfl) (fun _ _ _ h => h) (by rfl) ?_ (by assumption) ?_
    rotate_left
    · (intro w hSw; (try dsimp only at hSw); go_simp; with_reducible rfl)
    simp only [Act.put, List.setIfInBounds_toArray, List.set_cons_zero, List.set_cons_succ]
    refine wpAnyH_ready (rs := [8]) (by kernel_rfl) (by simp) (AllReadyH.cons (o := _) rfl (fun K hK => ?_) AllReadyH.nil)
    go_simp
    (refine (intR_any _ _ (if xa < 0 then -xa else xa) 80 (by exact HQ16.out.n2)).mono ?_; rintro e w17 ⟨r, rfl, hr, hb⟩; have HR := hide hr; obtain ⟨⟨rn, ro, rl, rc⟩, rfl⟩ := hr.nm; clear hr; have h17 := hide (h16.out.drew.later hb); have HX17 := hide (HX16.out.drew.later hb); have HY17 := hide (HY16.out.drew.later hb); have HG17 := hide (HG16.out.drew.later hb); have HQ17 := hide (HQ16.out.drew.later hb); clear hb; have c170 := row_cell HG17.out.row 2 _ rfl; have c171 := row_cell HG17.out.row 3 _ rfl; have d170 := row_cell HQ17.out.row 2 _ rfl; have d171 := row_cell HQ17.out.row 3 _ rfl; try dsimp only at c170 c171 d170 d171)
    go_wp2_with fail
    refine hK.out _ _ (by (try dsimp only); go_keep) (fun hHeld => ?_)
    clear hK K
    try simp only [Act.put, List.setIfInBounds_toArray, List.set_cons_zero, List.set_cons_succ]
    refine wpAnyH_ready (rs := [9]) (by kernel_rfl) (by simp) (AllReadyH.cons (o := _) rfl (fun K hK => ?_) AllReadyH.nil)
    go_simp
    (refine (sameInt_true _ _ _ (if xa < 0 then -xa else xa) 25 80 (by exact HG17.out.n2) HR.out).mono ?_; rintro e w18 ⟨rfl, hb⟩; have h18 := hide (h17.out.later hb); have HX18 := hide (HX17.out.later hb); have HY18 := hide (HY17.out.later hb); have HG18 := hide (HG17.out.later hb); have HQ18 := hide (HQ17.out.later hb); clear hb; have c180 := row_cell HG18.out.row 2 _ rfl; have c181 := row_cell HG18.out.row 3 _ rfl; have d180 := row_cell HQ18.out.row 2 _ rfl; have d181 := row_cell HQ18.out.row 3 _ rfl; try dsimp only at c180 c181 d180 d181)
    go_wp2_with fail
    refine hK.out _ _ (by (try dsimp only); go_keep) (fun hHeld => ?_)
    clear hK K
    try simp only [Act.put, List.setIfInBounds_toArray, List.set_cons_zero, List.set_cons_succ]
    refine held_run (v := ?_) 10 180 rfl rfl (by kernel_rfl) (by kernel_rfl) (by kernel_rfl) (fun _ _ _ h => h) (by rfl) ?_ (by assumption) ?_
    rotate_left
    · (intro w hSw; (try dsimp only at hSw); go_simp; with_reducible rfl)
    simp only [Act.put, List.setIfInBounds_toArray, List.set_cons_zero, List.set_cons_succ]
    refine wpAnyH_done (by kernel_rfl) ?_ _
    clear HR h16 h17 HX16 HX17 HY16 HY17 HG16 HG17 HQ16 HQ17 c0 c1 d0 d1 c170 c171 d170 d171 c180 c181 d180 d181 hHeld
    go_wp2
    go_roundw
    case rel => exact ⟨2, by omega, by go_num, h18.out, HX18.out, HY18.out, HG18.out, HQ18.out⟩
    case measure => simp [intOf]
  · have c0 := row_cell HG16.out.row 4 _ rfl
    have c1 := row_cell HG16.out.row 5 _ rfl
    have d0 := row_cell HQ16.out.row 4 _ rfl
    have d1 := row_cell HQ16.out.row 5 _ rfl
    try dsimp only at c0 c1 d0 d1
    go_wp2_with fail
    refine wp_region_held_drew (S := (fun w' => w'.cell? ⟨H, 4, none⟩ = some (.bool p3n) ∧ w'.cell? ⟨H, 5, none⟩ = some (.slice p3o p3l p3c) ∧ w'.cell? ⟨K, 4, none⟩ = some (.int .i64 q3s) ∧ w'.cell? ⟨K, 5, none⟩ = some (.slice q3o q3l q3c))) (by kernel_rfl) (by (try dsimp only); go_keep) (fun hHeld => ?_)
    refine held_run (v := ?_) 0 170 rfl rfl (by kernel_rfl) (by kernel_rfl) (by kernel_rfl) (fun _ _ _ h => h) (by rfl) ?_ (by assumption) ?_
    rotate_left
    · (intro w hSw; (try dsimp only at hSw); go_simp; with_reducible rfl)
    simp only [Act.put, List.setIfInBounds_toArray, List.set_cons_zero, List.set_cons_succ]
    refine held_run (v := ?_) 1 171 rfl rfl (by kernel_rfl) (by kernel_rfl) (by kernel_rfl) (fun _ _ _ h => h) (by rfl) ?_ (by assumption) ?_
    rotate_left
    · (intro w hSw; (try dsimp only at hSw); go_simp; with_reducible rfl)
    simp only [Act.put, List.setIfInBounds_toArray, List.set_cons_zero, List.set_cons_succ]
    refine held_run (v := ?_) 2 172 rfl rfl (by kernel_rfl) (by kernel_rfl) (by kernel_rfl) (fun _ _ _ h => h) (by rfl) ?_ (by assumption) ?_
    rotate_left
    · (intro w hSw; (try dsimp only at hSw); go_simp; with_reducible rfl)
    simp only [Act.put, List.setIfInBounds_toArray, List.set_cons_zero, List.set_cons_succ]
    refine held_run (v := ?_) 3 173 rfl rfl (by kernel_rfl) (by kernel_rfl) (by kernel_rfl) (fun _ _ _ h => h) (by rfl) ?_ (by assumption) ?_
    rotate_left
    · (intro w hSw; (try dsimp only at hSw); go_simp; with_reducible rfl)
    simp only [Act.put, List.setIfInBounds_toArray, List.set_cons_zero, List.set_cons_succ]
    refine held_run (v := ?_) 4 174 rfl rfl (by kernel_rfl) (by kernel_rfl) (by kernel_rfl) (fun _ _ _ h => h) (by rfl) ?_ (by assumption) ?_
    rotate_left
    · (intro w hSw; (try dsimp only at hSw); go_simp; with_reducible rfl)
    simp only [Act.put, List.setIfInBounds_toArray, List.set_cons_zero, List.set_cons_succ]
    refine held_run (v := ?_) 5 175 rfl rfl (by kernel_rfl) (by kernel_rfl) (by kernel_rfl) (fun _ _ _ h => h) (by rfl) ?_ (by assumption) ?_
    rotate_left
    · (intro w hSw; (try dsimp only at hSw); go_simp; with_reducible rfl)
    simp only [Act.put, List.setIfInBounds_toArray, List.set_cons_zero, List.set_cons_succ]
    refine held_run (v := ?_) 6 176 rfl rfl (by kernel_rfl) (by kernel_rfl) (by kernel_rfl) (fun _ _ _ h => h) (by rfl) ?_ (by assumption) ?_
    rotate_left
    · (intro w hSw; (try dsimp only at hSw); go_simp; with_reducible rfl)
    simp only [Act.put, List.setIfInBounds_toArray, List.set_cons_zero, List.set_cons_succ]
    refine held_run (v := ?_) 7 177 rfl rfl (by kernel_rfl) (by kernel_rfl) (by kernel_rfl) (fun _ _ _ h => h) (by rfl) ?_ (by assumption) ?_
    rotate_left
    · (intro w hSw; (try dsimp only at hSw); go_simp; with_reducible rfl)
    simp only [Act.put, List.setIfInBounds_toArray, List.set_cons_zero, List.set_cons_succ]
    refine wpAnyH_ready (rs := [8]) (by kernel_rfl) (by simp) (AllReadyH.cons (o := _) rfl (fun K hK => ?_) AllReadyH.nil)
    go_simp
    (refine (intR_any _ _ (xa + xb) 80 (by exact HQ16.out.n3)).mono ?_; rintro e w17 ⟨r, rfl, hr, hb⟩; have HR := hide hr; obtain ⟨⟨rn, ro, rl, rc⟩, rfl⟩ := hr.nm; clear hr; have h17 := hide (h16.out.drew.later hb); have HX17 := hide (HX16.out.drew.later hb); have HY17 := hide (HY16.out.drew.later hb); have HG17 := hide (HG16.out.drew.later hb); have HQ17 := hide (HQ16.out.drew.later hb); clear hb; have c170 := row_cell HG17.out.row 4 _ rfl; have c171 := row_cell HG17.out.row 5 _ rfl; have d170 := row_cell HQ17.out.row 4 _ rfl; have d171 := row_cell HQ17.out.row 5 _ rfl; try dsimp only at c170 c171 d170 d171)
    go_wp2_with fail
    refine hK.out _ _ (by (try dsimp only); go_keep) (fun hHeld => ?_)
    clear hK K
    try simp only [Act.put, List.setIfInBounds_toArray, List.set_cons_zero, List.set_cons_succ]
    refine wpAnyH_ready (rs := [9]) (by kernel_rfl) (by simp) (AllReadyH.cons (o := _) rfl (fun K hK => ?_) AllReadyH.nil)
    go_simp
    (refine (sameInt_true _ _ _ (xa + xb) 25 80 (by exact HG17.out.n3) HR.out).mono ?_; rintro e w18 ⟨rfl, hb⟩; have h18 := hide (h17.out.later hb); have HX18 := hide (HX17.out.later hb); have HY18 := hide (HY17.out.later hb); have HG18 := hide (HG17.out.later hb); have HQ18 := hide (HQ17.out.later hb); clear hb; have c180 := row_cell HG18.out.row 4 _ rfl; have c181 := row_cell HG18.out.row 5 _ rfl; have d180 := row_cell HQ18.out.row 4 _ rfl; have d181 := row_cell HQ18.out.row 5 _ rfl; try dsimp only at c180 c181 d180 d181)
    go_wp2_with fail
    refine hK.out _ _ (by (try dsimp only); go_keep) (fun hHeld => ?_)
    clear hK K
    try simp only [Act.put, List.setIfInBounds_toArray, List.set_cons_zero, List.set_cons_succ]
    refine held_run (v := ?_) 10 180 rfl rfl (by kernel_rfl) (by kernel_rfl) (by kernel_rfl) (fun _ _ _ h => h) (by rfl) ?_ (by assumption) ?_
    rotate_left
    · (intro w hSw; (try dsimp only at hSw); go_simp; with_reducible rfl)
    simp only [Act.put, List.setIfInBounds_toArray, List.set_cons_zero, List.set_cons_succ]
    refine wpAnyH_done (by kernel_rfl) ?_ _
    clear HR h16 h17 HX16 HX17 HY16 HY17 HG16 HG17 HQ16 HQ17 c0 c1 d0 d1 c170 c171 d170 d171 c180 c181 d180 d181 hHeld
    go_wp2
    go_roundw
    case rel => exact ⟨3, by omega, by go_num, h18.out, HX18.out, HY18.out, HG18.out, HQ18.out⟩
    case measure => simp [intOf]
  · have c0 := row_cell HG16.out.row 6 _ rfl
    have c1 := row_cell HG16.out.row 7 _ rfl
    have d0 := row_cell HQ16.out.row 6 _ rfl
    have d1 := row_cell HQ16.out.row 7 _ rfl
    try dsimp only at c0 c1 d0 d1
    go_wp2_with fail
    refine wp_region_held_drew (S := (fun w' => w'.cell? ⟨H, 6, none⟩ = some (.bool p4n) ∧ w'.cell? ⟨H, 7, none⟩ = some (.slice p4o p4l p4c) ∧ w'.cell? ⟨K, 6, none⟩ = some (.int .i64 q4s) ∧ w'.cell? ⟨K, 7, none⟩ = some (.slice q4o q4l q4c))) (by kernel_rfl) (by (try dsimp only); go_keep) (fun hHeld => ?_)
    refine held_run (v := ?_) 0 170 rfl rfl (by kernel_rfl) (by kernel_rfl) (by kernel_rfl) (fun _ _ _ h => h) (by rfl) ?_ (by assumption) ?_
    rotate_left
    · (intro w hSw; (try dsimp only at hSw); go_simp; with_reducible rfl)
    simp only [Act.put, List.setIfInBounds_toArray, List.set_cons_zero, List.set_cons_succ]
    refine held_run (v := ?_) 1 171 rfl rfl (by kernel_rfl) (by kernel_rfl) (by kernel_rfl) (fun _ _ _ h => h) (by rfl) ?_ (by assumption) ?_
    rotate_left
    · (intro w hSw; (try dsimp only at hSw); go_simp; with_reducible rfl)
    simp only [Act.put, List.setIfInBounds_toArray, List.set_cons_zero, List.set_cons_succ]
    refine held_run (v := ?_) 2 172 rfl rfl (by kernel_rfl) (by kernel_rfl) (by kernel_rfl) (fun _ _ _ h => h) (by rfl) ?_ (by assumption) ?_
    rotate_left
    · (intro w hSw; (try dsimp only at hSw); go_simp; with_reducible rfl)
    simp only [Act.put, List.setIfInBounds_toArray, List.set_cons_zero, List.set_cons_succ]
    refine held_run (v := ?_) 3 173 rfl rfl (by kernel_rfl) (by kernel_rfl) (by kernel_rfl) (fun _ _ _ h => h) (by rfl) ?_ (by assumption) ?_
    rotate_left
    · (intro w hSw; (try dsimp only at hSw); go_simp; with_reducible rfl)
    simp only [Act.put, List.setIfInBounds_toArray, List.set_cons_zero, List.set_cons_succ]
    refine held_run (v := ?_) 4 174 rfl rfl (by kernel_rfl) (by kernel_rfl) (by kernel_rfl) (fun _ _ _ h => h) (by rfl) ?_ (by assumption) ?_
    rotate_left
    · (intro w hSw; (try dsimp only at hSw); go_simp; with_reducible rfl)
    simp only [Act.put, List.setIfInBounds_toArray, List.set_cons_zero, List.set_cons_succ]
    refine held_run (v := ?_) 5 175 rfl rfl (by kernel_rfl) (by kernel_rfl) (by kernel_rfl) (fun _ _ _ h => h) (by rfl) ?_ (by assumption) ?_
    rotate_left
    · (intro w hSw; (try dsimp only at hSw); go_simp; with_reducible rfl)
    simp only [Act.put, List.setIfInBounds_toArray, List.set_cons_zero, List.set_cons_succ]
    refine held_run (v := ?_) 6 176 rfl rfl (by kernel_rfl) (by kernel_rfl) (by kernel_rfl) (fun _ _ _ h => h) (by rfl) ?_ (by assumption) ?_
    rotate_left
    · (intro w hSw; (try dsimp only at hSw); go_simp; with_reducible rfl)
    simp only [Act.put, List.setIfInBounds_toArray, List.set_cons_zero, List.set_cons_succ]
    refine held_run (v := ?_) 7 177 rfl rfl (by kernel_rfl) (by kernel_rfl) (by kernel_rfl) (fun _ _ _ h => h) (by rfl) ?_ (by assumption) ?_
    rotate_left
    · (intro w hSw; (try dsimp only at hSw); go_simp; with_reducible rfl)
    simp only [Act.put, List.setIfInBounds_toArray, List.set_cons_zero, List.set_cons_succ]
    refine wpAnyH_ready (rs := [8]) (by kernel_rfl) (by simp) (AllReadyH.cons (o := _) rfl (fun K hK => ?_) AllReadyH.nil)
    go_simp
    (refine (intR_any _ _ (xa - xb) 80 (by exact HQ16.out.n4)).mono ?_; rintro e w17 ⟨r, rfl, hr, hb⟩; have HR := hide hr; obtain ⟨⟨rn, ro, rl, rc⟩, rfl⟩ := hr.nm; clear hr; have h17 := hide (h16.out.drew.later hb); have HX17 := hide (HX16.out.drew.later hb); have HY17 := hide (HY16.out.drew.later hb); have HG17 := hide (HG16.out.drew.later hb); have HQ17 := hide (HQ16.out.drew.later hb); clear hb; have c170 := row_cell HG17.out.row 6 _ rfl; have c171 := row_cell HG17.out.row 7 _ rfl; have d170 := row_cell HQ17.out.row 6 _ rfl; have d171 := row_cell HQ17.out.row 7 _ rfl; try dsimp only at c170 c171 d170 d171)
    go_wp2_with fail
    refine hK.out _ _ (by (try dsimp only); go_keep) (fun hHeld => ?_)
    clear hK K
    try simp only [Act.put, List.setIfInBounds_toArray, List.set_cons_zero, List.set_cons_succ]
    refine wpAnyH_ready (rs := [9]) (by kernel_rfl) (by simp) (AllReadyH.cons (o := _) rfl (fun K hK => ?_) AllReadyH.nil)
    go_simp
    (refine (sameInt_true _ _ _ (xa - xb) 25 80 (by exact HG17.out.n4) HR.out).mono ?_; rintro e w18 ⟨rfl, hb⟩; have h18 := hide (h17.out.later hb); have HX18 := hide (HX17.out.later hb); have HY18 := hide (HY17.out.later hb); have HG18 := hide (HG17.out.later hb); have HQ18 := hide (HQ17.out.later hb); clear hb; have c180 := row_cell HG18.out.row 6 _ rfl; have c181 := row_cell HG18.out.row 7 _ rfl; have d180 := row_cell HQ18.out.row 6 _ rfl; have d181 := row_cell HQ18.out.row 7 _ rfl; try dsimp only at c180 c181 d180 d181)
    go_wp2_with fail
    refine hK.out _ _ (by (try dsimp only); go_keep) (fun hHeld => ?_)
    clear hK K
    try simp only [Act.put, List.setIfInBounds_toArray, List.set_cons_zero, List.set_cons_succ]
    refine held_run (v := ?_) 10 180 rfl rfl (by kernel_rfl) (by kernel_rfl) (by kernel_rfl) (fun _ _ _ h => h) (by rfl) ?_ (by assumption) ?_
    rotate_left
    · (intro w hSw; (try dsimp only at hSw); go_simp; with_reducible rfl)
    simp only [Act.put, List.setIfInBounds_toArray, List.set_cons_zero, List.set_cons_succ]
    refine wpAnyH_done (by kernel_rfl) ?_ _
    clear HR h16 h17 HX16 HX17 HY16 HY17 HG16 HG17 HQ16 HQ17 c0 c1 d0 d1 c170 c171 d170 d171 c180 c181 d180 d181 hHeld
    go_wp2
    go_roundw
    case rel => exact ⟨4, by omega, by go_num, h18.out, HX18.out, HY18.out, HG18.out, HQ18.out⟩
    case measure => simp [intOf]
  · have c0 := row_cell HG16.out.row 8 _ rfl
    have c1 := row_cell HG16.out.row 9 _ rfl
    have d0 := row_cell HQ16.out.row 8 _ rfl
    have d1 := row_cell HQ16.out.row 9 _ rfl
    try dsimp only at c0 c1 d0 d1
    go_wp2_with fail
    refine wp_region_held_drew (S := (fun w' => w'.cell? ⟨H, 8, none⟩ = some (.bool p5n) ∧ w'.cell? ⟨H, 9, none⟩ = some (.slice p5o p5l p5c) ∧ w'.cell? ⟨K, 8, none⟩ = some (.int .i64 q5s) ∧ w'.cell? ⟨K, 9, none⟩ = some (.slice q5o q5l q5c))) (by kernel_rfl) (by (try dsimp only); go_keep) (fun hHeld => ?_)
    refine held_run (v := ?_) 0 170 rfl rfl (by kernel_rfl) (by kernel_rfl) (by kernel_rfl) (fun _ _ _ h => h) (by rfl) ?_ (by assumption) ?_
    rotate_left
    · (intro w hSw; (try dsimp only at hSw); go_simp; with_reducible rfl)
    simp only [Act.put, List.setIfInBounds_toArray, List.set_cons_zero, List.set_cons_succ]
    refine held_run (v := ?_) 1 171 rfl rfl (by kernel_rfl) (by kernel_rfl) (by kernel_rfl) (fun _ _ _ h => h) (by rfl) ?_ (by assumption) ?_
    rotate_left
    · (intro w hSw; (try dsimp only at hSw); go_simp; with_reducible rfl)
    simp only [Act.put, List.setIfInBounds_toArray, List.set_cons_zero, List.set_cons_succ]
    refine held_run (v := ?_) 2 172 rfl rfl (by kernel_rfl) (by kernel_rfl) (by kernel_rfl) (fun _ _ _ h => h) (by rfl) ?_ (by assumption) ?_
    rotate_left
    · (intro w hSw; (try dsimp only at hSw); go_simp; with_reducible rfl)
    simp only [Act.put, List.setIfInBounds_toArray, List.set_cons_zero, List.set_cons_succ]
    refine held_run (v := ?_) 3 173 rfl rfl (by kernel_rfl) (by kernel_rfl) (by kernel_rfl) (fun _ _ _ h => h) (by rfl) ?_ (by assumption) ?_
    rotate_left
    · (intro w hSw; (try dsimp only at hSw); go_simp; with_reducible rfl)
    simp only [Act.put, List.setIfInBounds_toArray, List.set_cons_zero, List.set_cons_succ]
    refine held_run (v := ?_) 4 174 rfl rfl (by kernel_rfl) (by kernel_rfl) (by kernel_rfl) (fun _ _ _ h => h) (by rfl) ?_ (by assumption) ?_
    rotate_left
    · (intro w hSw; (try dsimp only at hSw); go_simp; with_reducible rfl)
    simp only [Act.put, List.setIfInBounds_toArray, List.set_cons_zero, List.set_cons_succ]
    refine held_run (v := ?_) 5 175 rfl rfl (by kernel_rfl) (by kernel_rfl) (by kernel_rfl) (fun _ _ _ h => h) (by rfl) ?_ (by assumption) ?_
    rotate_left
    · (intro w hSw; (try dsimp only at hSw); go_simp; with_reducible rfl)
    simp only [Act.put, List.setIfInBounds_toArray, List.set_cons_zero, List.set_cons_succ]
    refine held_run (v := ?_) 6 176 rfl rfl (by kernel_rfl) (by kernel_rfl) (by kernel_rfl) (fun _ _ _ h => h) (by rfl) ?_ (by assumption) ?_
    rotate_left
    · (intro w hSw; (try dsimp only at hSw); go_simp; with_reducible rfl)
    simp only [Act.put, List.setIfInBounds_toArray, List.set_cons_zero, List.set_cons_succ]
    refine held_run (v := ?_) 7 177 rfl rfl (by kernel_rfl) (by kernel_rfl) (by kernel_rfl) (fun _ _ _ h => h) (by rfl) ?_ (by assumption) ?_
    rotate_left
    · (intro w hSw; (try dsimp only at hSw); go_simp; with_reducible rfl)
    simp only [Act.put, List.setIfInBounds_toArray, List.set_cons_zero, List.set_cons_succ]
    refine wpAnyH_ready (rs := [8]) (by kernel_rfl) (by simp) (AllReadyH.cons (o := _) rfl (fun K hK => ?_) AllReadyH.nil)
    go_simp
    (refine (intR_any _ _ (xa * xb) 80 (by exact HQ16.out.n5)).mono ?_; rintro e w17 ⟨r, rfl, hr, hb⟩; have HR := hide hr; obtain ⟨⟨rn, ro, rl, rc⟩, rfl⟩ := hr.nm; clear hr; have h17 := hide (h16.out.drew.later hb); have HX17 := hide (HX16.out.drew.later hb); have HY17 := hide (HY16.out.drew.later hb); have HG17 := hide (HG16.out.drew.later hb); have HQ17 := hide (HQ16.out.drew.later hb); clear hb; have c170 := row_cell HG17.out.row 8 _ rfl; have c171 := row_cell HG17.out.row 9 _ rfl; have d170 := row_cell HQ17.out.row 8 _ rfl; have d171 := row_cell HQ17.out.row 9 _ rfl; try dsimp only at c170 c171 d170 d171)
    go_wp2_with fail
    refine hK.out _ _ (by (try dsimp only); go_keep) (fun hHeld => ?_)
    clear hK K
    try simp only [Act.put, List.setIfInBounds_toArray, List.set_cons_zero, List.set_cons_succ]
    refine wpAnyH_ready (rs := [9]) (by kernel_rfl) (by simp) (AllReadyH.cons (o := _) rfl (fun K hK => ?_) AllReadyH.nil)
    go_simp
    (refine (sameInt_true _ _ _ (xa * xb) 25 80 (by exact HG17.out.n5) HR.out).mono ?_; rintro e w18 ⟨rfl, hb⟩; have h18 := hide (h17.out.later hb); have HX18 := hide (HX17.out.later hb); have HY18 := hide (HY17.out.later hb); have HG18 := hide (HG17.out.later hb); have HQ18 := hide (HQ17.out.later hb); clear hb; have c180 := row_cell HG18.out.row 8 _ rfl; have c181 := row_cell HG18.out.row 9 _ rfl; have d180 := row_cell HQ18.out.row 8 _ rfl; have d181 := row_cell HQ18.out.row 9 _ rfl; try dsimp only at c180 c181 d180 d181)
    go_wp2_with fail
    refine hK.out _ _ (by (try dsimp only); go_keep) (fun hHeld => ?_)
    clear hK K
    try simp only [Act.put, List.setIfInBounds_toArray, List.set_cons_zero, List.set_cons_succ]
    refine held_run (v := ?_) 10 180 rfl rfl (by kernel_rfl) (by kernel_rfl) (by kernel_rfl) (fun _ _ _ h => h) (by rfl) ?_ (by assumption) ?_
    rotate_left
    · (intro w hSw; (try dsimp only at hSw); go_simp; with_reducible rfl)
    simp only [Act.put, List.setIfInBounds_toArray, List.set_cons_zero, List.set_cons_succ]
    refine wpAnyH_done (by kernel_rfl) ?_ _
    clear HR h16 h17 HX16 HX17 HY16 HY17 HG16 HG17 HQ16 HQ17 c0 c1 d0 d1 c170 c171 d170 d171 c180 c181 d180 d181 hHeld
    go_wp2
    go_roundw
    case rel => exact ⟨5, by omega, by go_num, h18.out, HX18.out, HY18.out, HG18.out, HQ18.out⟩
    case measure => simp [intOf]
  · clear HG16 HQ16
    obtain ⟨a0, a1, -, -⟩ := h16.out.a
    go_wp2_with fail
    refine (small_any _ _ xa 12 (NA.out.below h16.out.below (Nat.le_refl _))).mono ?_
    rintro e W17 ⟨rfl, hb⟩
    have h17 := hide (h16.out.later hb); have HX17 := hide (HX16.out.later hb); have HY17 := hide (HY16.out.later hb)
    clear hb h16 HX16 HY16 a0 a1
    obtain ⟨rb, hrb⟩ : ∃ r, room xa = r := ⟨_, rfl⟩
    rw [hrb]
    obtain ⟨sv, hsv⟩ : ∃ z, (if rb = true then xa else 0) = z := ⟨_, rfl⟩
    rw [hsv]
    have HRB := hide hrb; have HSV := hide hsv
    clear hrb hsv
    obtain ⟨x0, x1, -, -⟩ := HX17.out.box.box
    try dsimp only at x0 x1
    go_upto_region 24 with fail
    go_cut [18] from 30 (fun v wc => v = .bool rb ∧ BS w wc (.bool an) (.slice ao a.length ac) (.bool bn) (.slice bo b.length bc) ∧ RVar wc X ⟨xs, xo, xl, xc⟩ xa 36 ∧ RVar wc Y ⟨ys, yo, yl, yc⟩ xb 36)
    case first =>
      by_cases hx : xa < -9223372036854775808
      · have hc1 : decide (0 ≤ cmpI xa (-9223372036854775808)) = false := decide_eq_false (by unfold cmpI; repeat' split; all_goals omega)
        have hrv : Hid (false = rb) := by show _ = _; rw [← HRB.out]; unfold room; simp; omega
        refine wp_region_held_drew (S := (fun w' => w'.cell? ⟨X, 0, none⟩ = some (.int .i64 xs) ∧ w'.cell? ⟨X, 1, none⟩ = some (.slice xo xl xc))) (by kernel_rfl) (by (try dsimp only); go_keep) (fun hHeld => ?_)
        refine held_run (v := ?_) 0 186 rfl rfl (by kernel_rfl) (by kernel_rfl) (by kernel_rfl) (fun _ _ _ h => h) (by rfl) ?_ (by assumption) ?_
        rotate_left
        · (intro w hSw; (try dsimp only at hSw); go_simp; with_reducible rfl)
        simp only [Act.put, List.setIfInBounds_toArray, List.set_cons_zero, List.set_cons_succ]
        refine wpAnyH_ready (rs := [1]) (by kernel_rfl) (by simp) (AllReadyH.cons (o := _) rfl (fun K hK => ?_) AllReadyH.nil)
        go_simp
        (refine (n_any _ (-9223372036854775808) (by decide) (by decide)).mono ?_; rintro e w18 ⟨r, rfl, hr, hb⟩; have HR := hide hr; clear hr; have h18 := hide (h17.out.drew.later hb); have HX18 := hide (HX17.out.drew.later hb); have HY18 := hide (HY17.out.drew.later hb); clear hb; obtain ⟨k180, k181, -, -⟩ := HX18.out.box.box; try dsimp only at k180 k181)
        go_wp2_with fail
        refine hK.out _ _ (by (try dsimp only); go_keep) (fun hHeld => ?_)
        clear hK K
        try simp only [Act.put, List.setIfInBounds_toArray, List.set_cons_zero, List.set_cons_succ]
        refine wpAnyH_ready (rs := [2]) (by kernel_rfl) (by simp) (AllReadyH.cons (o := _) rfl (fun K hK => ?_) AllReadyH.nil)
        go_simp
        (refine (cmp_any _ _ _ xa (-9223372036854775808) 36 5 (by exact HX18.out.num) HR.out).mono ?_; rintro e w19 ⟨rfl, hb⟩; generalize cmpI xa (-9223372036854775808) = z1 at *; have h19 := hide (h18.out.later hb); have HX19 := hide (HX18.out.later hb); have HY19 := hide (HY18.out.later hb); clear hb; obtain ⟨k190, k191, -, -⟩ := HX19.out.box.box; try dsimp only at k190 k191)
        go_wp2_with fail
        refine hK.out _ _ (by (try dsimp only); go_keep) (fun hHeld => ?_)
        clear hK K
        try simp only [Act.put, List.setIfInBounds_toArray, List.set_cons_zero, List.set_cons_succ]
        refine held_run (v := ?_) 3 189 rfl rfl (by kernel_rfl) (by kernel_rfl) (by kernel_rfl) (fun _ _ _ h => h) (by rfl) ?_ (by assumption) ?_
        rotate_left
        · (intro w hSw; (try dsimp only at hSw); go_simp; with_reducible rfl)
        simp only [Act.put, List.setIfInBounds_toArray, List.set_cons_zero, List.set_cons_succ]
        refine held_run (v := ?_) 4 190 rfl rfl (by kernel_rfl) (by kernel_rfl) (by kernel_rfl) (fun _ _ _ h => h) (by rfl) ?_ (by assumption) ?_
        rotate_left
        · (intro w hSw; (try dsimp only at hSw); go_simp; with_reducible rfl)
        simp only [Act.put, List.setIfInBounds_toArray, List.set_cons_zero, List.set_cons_succ]
        refine held_skip 5 191 rfl rfl (by kernel_rfl) (by kernel_rfl) (by kernel_rfl) (fun _ _ _ h => h) (by rfl) (by assumption) ?_
        simp only [Act.put, List.setIfInBounds_toArray, List.set_cons_zero, List.set_cons_succ]
        refine held_skip 6 192 rfl rfl (by kernel_rfl) (by kernel_rfl) (by kernel_rfl) (fun _ _ _ h => h) (by rfl) (by assumption) ?_
        simp only [Act.put, List.setIfInBounds_toArray, List.set_cons_zero, List.set_cons_succ]
        refine held_skip 7 193 rfl rfl (by kernel_rfl) (by kernel_rfl) (by kernel_rfl) (fun _ _ _ h => h) (by rfl) (by assumption) ?_
        simp only [Act.put, List.setIfInBounds_toArray, List.set_cons_zero, List.set_cons_succ]
        refine held_skip 8 194 rfl rfl (by kernel_rfl) (by kernel_rfl) (by kernel_rfl) (fun _ _ _ h => h) (by rfl) (by assumption) ?_
        simp only [Act.put, List.setIfInBounds_toArray, List.set_cons_zero, List.set_cons_succ]
        refine held_run (v := ?_) 9 195 rfl rfl (by kernel_rfl) (by kernel_rfl) (by kernel_rfl) (fun _ _ _ h => h) (by rfl) ?_ (by assumption) ?_
        rotate_left
        · (intro w hSw; (try dsimp only at hSw); go_simp; with_reducible rfl)
        simp only [Act.put, List.setIfInBounds_toArray, List.set_cons_zero, List.set_cons_succ]
        refine held_run (v := ?_) 10 18 rfl rfl (by kernel_rfl) (by kernel_rfl) (by kernel_rfl) (fun _ _ _ h => h) (by rfl) ?_ (by assumption) ?_
        rotate_left
        · (intro w hSw; (try dsimp only at hSw); go_simp; with_reducible rfl)
        simp only [Act.put, List.setIfInBounds_toArray, List.set_cons_zero, List.set_cons_succ]
        refine wpAnyH_done (by kernel_rfl) ?_ _
        go_wp2_with fail
        go_meet
        case rel => exact ⟨congrArg Value.bool hrv.out, h19.out, HX19.out, HY19.out⟩
      · have hc1 : decide (0 ≤ cmpI xa (-9223372036854775808)) = true := decide_eq_true (by unfold cmpI; repeat' split; all_goals omega)
        have hrv : Hid (decide (cmpI xa 9223372036854775807 ≤ 0) = rb) := by
          show _ = _
          rw [← HRB.out]
          unfold room
          rw [decide_eq_true (show -9223372036854775808 ≤ xa by omega), Bool.true_and]
          rw [decide_eq_decide]
          unfold cmpI
          repeat' split
          all_goals omega
        refine wp_region_held_drew (S := (fun w' => w'.cell? ⟨X, 0, none⟩ = some (.int .i64 xs) ∧ w'.cell? ⟨X, 1, none⟩ = some (.slice xo xl xc))) (by kernel_rfl) (by (try dsimp only); go_keep) (fun hHeld => ?_)
        refine held_run (v := ?_) 0 186 rfl rfl (by kernel_rfl) (by kernel_rfl) (by kernel_rfl) (fun _ _ _ h => h) (by rfl) ?_ (by assumption) ?_
        rotate_left
        · (intro w hSw; (try dsimp only at hSw); go_simp; with_reducible rfl)
        simp only [Act.put, List.setIfInBounds_toArray, List.set_cons_zero, List.set_cons_succ]
        refine wpAnyH_ready (rs := [1]) (by kernel_rfl) (by simp) (AllReadyH.cons (o := _) rfl (fun K hK => ?_) AllReadyH.nil)
        go_simp
        (refine (n_any _ (-9223372036854775808) (by decide) (by decide)).mono ?_; rintro e w18 ⟨r, rfl, hr, hb⟩; have HR := hide hr; clear hr; have h18 := hide (h17.out.drew.later hb); have HX18 := hide (HX17.out.drew.later hb); have HY18 := hide (HY17.out.drew.later hb); clear hb; obtain ⟨k180, k181, -, -⟩ := HX18.out.box.box; try dsimp only at k180 k181)
        go_wp2_with fail
        refine hK.out _ _ (by (try dsimp only); go_keep) (fun hHeld => ?_)
        clear hK K
        try simp only [Act.put, List.setIfInBounds_toArray, List.set_cons_zero, List.set_cons_succ]
        refine wpAnyH_ready (rs := [2]) (by kernel_rfl) (by simp) (AllReadyH.cons (o := _) rfl (fun K hK => ?_) AllReadyH.nil)
        go_simp
        (refine (cmp_any _ _ _ xa (-9223372036854775808) 36 5 (by exact HX18.out.num) HR.out).mono ?_; rintro e w19 ⟨rfl, hb⟩; generalize cmpI xa (-9223372036854775808) = z1 at *; have h19 := hide (h18.out.later hb); have HX19 := hide (HX18.out.later hb); have HY19 := hide (HY18.out.later hb); clear hb; obtain ⟨k190, k191, -, -⟩ := HX19.out.box.box; try dsimp only at k190 k191)
        go_wp2_with fail
        refine hK.out _ _ (by (try dsimp only); go_keep) (fun hHeld => ?_)
        clear hK K
        try simp only [Act.put, List.setIfInBounds_toArray, List.set_cons_zero, List.set_cons_succ]
        refine held_run (v := ?_) 3 189 rfl rfl (by kernel_rfl) (by kernel_rfl) (by kernel_rfl) (fun _ _ _ h => h) (by rfl) ?_ (by assumption) ?_
        rotate_left
        · (intro w hSw; (try dsimp only at hSw); go_simp; with_reducible rfl)
        simp only [Act.put, List.setIfInBounds_toArray, List.set_cons_zero, List.set_cons_succ]
        refine held_run (v := ?_) 4 190 rfl rfl (by kernel_rfl) (by kernel_rfl) (by kernel_rfl) (fun _ _ _ h => h) (by rfl) ?_ (by assumption) ?_
        rotate_left
        · (intro w hSw; (try dsimp only at hSw); go_simp; with_reducible rfl)
        simp only [Act.put, List.setIfInBounds_toArray, List.set_cons_zero, List.set_cons_succ]
        refine held_run (v := ?_) 5 191 rfl rfl (by kernel_rfl) (by kernel_rfl) (by kernel_rfl) (fun _ _ _ h => h) (by rfl) ?_ (by assumption) ?_
        rotate_left
        · (intro w hSw; (try dsimp only at hSw); go_simp; with_reducible rfl)
        simp only [Act.put, List.setIfInBounds_toArray, List.set_cons_zero, List.set_cons_succ]
        refine wpAnyH_ready (rs := [6]) (by kernel_rfl) (by simp) (AllReadyH.cons (o := _) rfl (fun K hK => ?_) AllReadyH.nil)
        go_simp
        (refine (n_any _ 9223372036854775807 (by decide) (by decide)).mono ?_; rintro e w20 ⟨r, rfl, hr, hb⟩; have HR' := hide hr; clear hr; have h20 := hide (h19.out.later hb); have HX20 := hide (HX19.out.later hb); have HY20 := hide (HY19.out.later hb); clear hb; obtain ⟨k200, k201, -, -⟩ := HX20.out.box.box; try dsimp only at k200 k201)
        go_wp2_with fail
        refine hK.out _ _ (by (try dsimp only); go_keep) (fun hHeld => ?_)
        clear hK K
        try simp only [Act.put, List.setIfInBounds_toArray, List.set_cons_zero, List.set_cons_succ]
        refine wpAnyH_ready (rs := [7]) (by kernel_rfl) (by simp) (AllReadyH.cons (o := _) rfl (fun K hK => ?_) AllReadyH.nil)
        go_simp
        (refine (cmp_any _ _ _ xa 9223372036854775807 36 5 (by exact HX20.out.num) HR'.out).mono ?_; rintro e w21 ⟨rfl, hb⟩; generalize cmpI xa 9223372036854775807 = z2 at *; have h21 := hide (h20.out.later hb); have HX21 := hide (HX20.out.later hb); have HY21 := hide (HY20.out.later hb); clear hb; obtain ⟨k210, k211, -, -⟩ := HX21.out.box.box; try dsimp only at k210 k211)
        go_wp2_with fail
        refine hK.out _ _ (by (try dsimp only); go_keep) (fun hHeld => ?_)
        clear hK K
        try simp only [Act.put, List.setIfInBounds_toArray, List.set_cons_zero, List.set_cons_succ]
        refine held_run (v := ?_) 8 194 rfl rfl (by kernel_rfl) (by kernel_rfl) (by kernel_rfl) (fun _ _ _ h => h) (by rfl) ?_ (by assumption) ?_
        rotate_left
        · (intro w hSw; (try dsimp only at hSw); go_simp; with_reducible rfl)
        simp only [Act.put, List.setIfInBounds_toArray, List.set_cons_zero, List.set_cons_succ]
        refine held_run (v := ?_) 9 195 rfl rfl (by kernel_rfl) (by kernel_rfl) (by kernel_rfl) (fun _ _ _ h => h) (by rfl) ?_ (by assumption) ?_
        rotate_left
        · (intro w hSw; (try dsimp only at hSw); go_simp; with_reducible rfl)
        simp only [Act.put, List.setIfInBounds_toArray, List.set_cons_zero, List.set_cons_succ]
        refine held_run (v := ?_) 10 18 rfl rfl (by kernel_rfl) (by kernel_rfl) (by kernel_rfl) (fun _ _ _ h => h) (by rfl) ?_ (by assumption) ?_
        rotate_left
        · (intro w hSw; (try dsimp only at hSw); go_simp; with_reducible rfl)
        simp only [Act.put, List.setIfInBounds_toArray, List.set_cons_zero, List.set_cons_succ]
        refine wpAnyH_done (by kernel_rfl) ?_ _
        go_wp2_with fail
        go_meet
        case rel => exact ⟨congrArg Value.bool hrv.out, h21.out, HX21.out, HY21.out⟩
    case rest =>
    obtain ⟨rfl, hh, hx, hy⟩ := hcut
    apply_assumption
    exact bigSays_F w wc HTB.out an bn ao bo ac bc a b xa xb X Y xs xo xl xc ys yo yl yc rb sv NA.out NB.out hh hx hy HRB.out HSV.out _ _ _ _ _ _ _ _ _ _ _ _ _ _ _ _ _ _ _ _ _ _ _ _ _ _ _ _ _ _ _ _ _ _ _ _ _ _ _ _ _ _ _ _ _ _ _ _ _ _ _ _ _ _ _ _ _ _ _ _ _ _ _ _ _ _ _ _ _ _ _ _ _ _ _ _ _ _ _ _ _ _ _ _ _ _ _ _ _ _ _ _ _ _ _ _ _ _ _ _ _ _ _ _ _ _ _ _ _ _ _ _ _ _ _ _ _ _ _ _ _ _ _ _ _ _ _ _ _ _ _ _ _ _ _ _ _ _ _ _ _ _ _ _ _ _ _ _ _ _ _ _ _ _ _ _ _ _ _ _ _ _ _ _ _ _ _ _ _ _ _ _ _ _ _ _ _ _ _ _ _ _ _ _ _ _ _ _ _ _ _ _ _ _ _ _ _ _ _ _ _ _ _ _ _ _ _ _ _ _ _ _ _ _ _ _ _ _ _ _ _ _ _ _ _ _ _ _ _ _ _ _ _ _ _ _ _ _ _ _ _ _ _ _ _ _ _ _ _ _ _ _ _ _ _ _ _ _ _ _ _ _ _ _ _ _ _ _ _ _ _ _ _ _ _ _

end Go.Proofs.YtaijeimgbbpgiaaDoor
