/- BigSays: nought, the order, five of the program's numbers. -/
import Derived.Test.YtaijeimgbbpgiaaDoorBigSaysH
namespace Go.Proofs.YtaijeimgbbpgiaaDoor
open Go.RowKit Limbs Digs

set_option linter.unusedSimpArgs false in
set_option maxRecDepth 100000 in
set_option maxHeartbeats 6400000 in
theorem bigSays_I (w W : World) (ht : Tab w) (an bn : Bool) (ao bo : Option Addr) (ac bc : Nat) (a b : List Int) (xa xb : Int) (X Y : Nat) (xs : Int) (xo : Option Addr) (xl xc : Nat) (ys : Int) (yo : Option Addr) (yl yc : Nat) 
    (hxa : NumL w (.agg #[.bool an, .slice ao a.length ac]) xa 12) (hxb : NumL w (.agg #[.bool bn, .slice bo b.length bc]) xb 12)
    (h0 : BS w W (.bool an) (.slice ao a.length ac) (.bool bn) (.slice bo b.length bc)) (hx0 : RVar W X ⟨xs, xo, xl, xc⟩ xa 36) (hy0 : RVar W Y ⟨ys, yo, yl, yc⟩ xb 36) (hX : w.heap.size + 1 < X) (hXY : X < Y)
    (sl0 sl1 sl2 sl5 sl6 sl7 sl8 sl9 sl12 sl13 sl14 sl15 sl16 sl17 sl18 sl19 sl20 sl21 sl22 sl23 sl24 sl25 sl26 sl27 sl28 sl29 sl30 sl31 sl32 sl33 sl34 sl35 sl36 sl37 sl38 sl39 sl40 sl41 sl42 sl43 sl44 sl45 sl46 sl47 sl48 sl49 sl50 sl51 sl52 sl53 sl54 sl55 sl56 sl57 sl58 sl59 sl60 sl61 sl62 sl63 sl64 sl65 sl66 sl67 sl68 sl69 sl70 sl71 sl72 sl73 sl74 sl75 sl76 sl77 sl78 sl79 sl80 sl81 sl82 sl83 sl84 sl85 sl86 sl87 sl88 sl89 sl90 sl91 sl92 sl93 sl94 sl95 sl96 sl97 sl98 sl99 sl100 sl101 sl102 sl103 sl104 sl105 sl106 sl107 sl108 sl109 sl110 sl111 sl112 sl113 sl114 sl115 sl116 sl117 sl118 sl119 sl120 sl121 sl122 sl123 sl124 sl125 sl126 sl127 sl128 sl129 sl130 sl131 sl132 sl133 sl134 sl135 sl136 sl137 sl138 sl139 sl140 sl141 sl142 sl143 sl144 sl145 sl146 sl147 sl148 sl149 sl150 sl151 sl152 sl153 sl154 sl155 sl156 sl157 sl158 sl159 sl160 sl161 sl162 sl163 sl164 sl165 sl166 sl167 sl168 sl169 sl170 sl171 sl172 sl173 sl174 sl175 sl176 sl177 sl178 sl179 sl180 sl181 sl182 sl183 sl184 sl185 sl186 sl187 sl188 sl189 sl190 sl191 sl192 sl193 sl194 sl195 sl196 sl197 sl198 sl199 sl200 sl201 sl202 sl203 sl204 sl205 sl206 sl207 sl208 sl209 sl210 sl211 sl212 sl213 sl214 sl215 sl216 sl217 sl218 sl219 sl220 sl221 sl222 sl223 sl224 sl225 sl226 sl227 sl228 sl229 sl230 sl231 sl232 sl233 sl234 sl235 sl236 sl237 sl238 sl239 sl240 sl241 sl242 sl243 sl244 sl245 sl246 sl247 sl248 sl249 sl250 sl251 sl252 sl253 sl254 sl255 sl256 sl257 sl258 sl259 sl260 sl261 sl262 sl263 sl264 sl265 sl266 sl267 sl268 sl269 sl270 sl271 sl272 sl273 sl274 sl275 sl276 sl277 sl278 sl279 sl280 sl281 sl282 : Value) :
    (Code.tl (Code.tl (Code.tl (Code.tl (Code.tl (Code.tl (Code.tl (Code.tl ((Tryd.f4.body).getD .skip))))))))).wp Tryd.prog (bodyPost Tryd.prog Tryd.f4 (fun e w' => e = .returned (.bool true) ∧ Below w.heap.size w w')) ⟨#[sl0, sl1, sl2, .pointer (some ⟨w.heap.size, 0, none⟩), .pointer (some ⟨w.heap.size + 1, 0, none⟩), sl5, sl6, sl7, sl8, sl9, .pointer (some ⟨X, 0, none⟩), .pointer (some ⟨Y, 0, none⟩), sl12, sl13, sl14, sl15, sl16, sl17, sl18, sl19, sl20, sl21, sl22, sl23, sl24, sl25, sl26, sl27, sl28, sl29, sl30, sl31, sl32, sl33, sl34, sl35, sl36, sl37, sl38, sl39, sl40, sl41, sl42, sl43, sl44, sl45, sl46, sl47, sl48, sl49, sl50, sl51, sl52, sl53, sl54, sl55, sl56, sl57, sl58, sl59, sl60, sl61, sl62, sl63, sl64, sl65, sl66, sl67, sl68, sl69, sl70, sl71, sl72, sl73, sl74, sl75, sl76, sl77, sl78, sl79, sl80, sl81, sl82, sl83, sl84, sl85, sl86, sl87, sl88, sl89, sl90, sl91, sl92, sl93, sl94, sl95, sl96, sl97, sl98, sl99, sl100, sl101, sl102, sl103, sl104, sl105, sl106, sl107, sl108, sl109, sl110, sl111, sl112, sl113, sl114, sl115, sl116, sl117, sl118, sl119, sl120, sl121, sl122, sl123, sl124, sl125, sl126, sl127, sl128, sl129, sl130, sl131, sl132, sl133, sl134, sl135, sl136, sl137, sl138, sl139, sl140, sl141, sl142, sl143, sl144, sl145, sl146, sl147, sl148, sl149, sl150, sl151, sl152, sl153, sl154, sl155, sl156, sl157, sl158, sl159, sl160, sl161, sl162, sl163, sl164, sl165, sl166, sl167, sl168, sl169, sl170, sl171, sl172, sl173, sl174, sl175, sl176, sl177, sl178, sl179, sl180, sl181, sl182, sl183, sl184, sl185, sl186, sl187, sl188, sl189, sl190, sl191, sl192, sl193, sl194, sl195, sl196, sl197, sl198, sl199, sl200, sl201, sl202, sl203, sl204, sl205, sl206, sl207, sl208, sl209, sl210, sl211, sl212, sl213, sl214, sl215, sl216, sl217, sl218, sl219, sl220, sl221, sl222, sl223, sl224, sl225, sl226, sl227, sl228, sl229, sl230, sl231, sl232, sl233, sl234, sl235, sl236, sl237, sl238, sl239, sl240, sl241, sl242, sl243, sl244, sl245, sl246, sl247, sl248, sl249, sl250, sl251, sl252, sl253, sl254, sl255, sl256, sl257, sl258, sl259, sl260, sl261, sl262, sl263, sl264, sl265, sl266, sl267, sl268, sl269, sl270, sl271, sl272, sl273, sl274, sl275, sl276, sl277, sl278, sl279, sl280, sl281, sl282], []⟩ W := by
  simp only [Code.tl, Tryd.f4, Option.getD_some]
  have NA := hide hxa; have NB := hide hxb; have HTB := hide ht
  clear hxa hxb ht
  have h3 := hide h0; have HX3 := hide hx0; have HY3 := hide hy0
  clear h0 hx0 hy0
  generalize W = W3 at *
  obtain ⟨zb, hz1, hz2⟩ : ∃ zb : Bool, decide (xa = 0) = zb ∧ (xs == 0) = zb := ⟨_, rfl, by have := HX3.out.num.sign; dsimp only at this; by_cases h : xa = 0; rw [decide_eq_true h, beq_iff_eq]; omega; rw [decide_eq_false h, beq_eq_false_iff_ne]; omega⟩
  have HZ1 := hide hz1
  clear hz1
  obtain ⟨a0, a1, -, -⟩ := h3.out.a
  obtain ⟨b0, b1, -, -⟩ := h3.out.b
  obtain ⟨x0, x1, -, -⟩ := HX3.out.box.box
  obtain ⟨y0, y1, -, -⟩ := HY3.out.box.box
  try dsimp only at x0 x1 y0 y1
  go_wp2_with fail
  refine wp_region_held_drew (S := (fun w' => w'.cell? ⟨w.heap.size, 0, none⟩ = some (.bool an) ∧ w'.cell? ⟨w.heap.size, 1, none⟩ = some (.slice ao a.length ac) ∧ w'.cell? ⟨w.heap.size + 1, 0, none⟩ = some (.bool bn) ∧ w'.cell? ⟨w.heap.size + 1, 1, none⟩ = some (.slice bo b.length bc) ∧ w'.cell? ⟨X, 0, none⟩ = some (.int .i64 xs) ∧ w'.cell? ⟨X, 1, none⟩ = some (.slice xo xl xc) ∧ w'.cell? ⟨Y, 0, none⟩ = some (.int .i64 ys) ∧ w'.cell? ⟨Y, 1, none⟩ = some (.slice yo yl yc))) (by kernel_rfl) (by (try dsimp only); go_keep) (fun hHeld => ?_)
  refine held_run (v := ?_) 0 116 rfl rfl (by kernel_rfl) (by kernel_rfl) (by kernel_rfl) (fun _ _ _ h => h) (by rfl) ?_ (by assumption) ?_
  rotate_left
  · (intro w hSw; (try dsimp only at hSw); go_simp; with_reducible rfl)
  simp only [Act.put, List.setIfInBounds_toArray, List.set_cons_zero, List.set_cons_succ]
  refine held_run (v := ?_) 2 118 rfl rfl (by kernel_rfl) (by kernel_rfl) (by kernel_rfl) (fun _ _ _ h => h) (by rfl) ?_ (by assumption) ?_
  rotate_left
  · (intro w hSw; (try dsimp only at hSw); go_simp; with_reducible rfl)
  simp only [Act.put, List.setIfInBounds_toArray, List.set_cons_zero, List.set_cons_succ]
  refine held_run (v := ?_) 3 119 rfl rfl (by kernel_rfl) (by kernel_rfl) (by kernel_rfl) (fun _ _ _ h => h) (by rfl) ?_ (by assumption) ?_
  rotate_left
  · (intro w hSw; (try dsimp only at hSw); go_simp; with_reducible rfl)
  simp only [Act.put, List.setIfInBounds_toArray, List.set_cons_zero, List.set_cons_succ]
  refine held_run (v := ?_) 4 120 rfl rfl (by kernel_rfl) (by kernel_rfl) (by kernel_rfl) (fun _ _ _ h => h) (by rfl) ?_ (by assumption) ?_
  rotate_left
  · (intro w hSw; (try dsimp only at hSw); go_simp; with_reducible rfl)
  simp only [Act.put, List.setIfInBounds_toArray, List.set_cons_zero, List.set_cons_succ]
  refine wpAnyH_ready (rs := [1]) (by kernel_rfl) (by simp) (AllReadyH.cons (o := _) rfl (fun K hK => ?_) AllReadyH.nil)
  go_simp
  (refine (zero_any _ _ xa 12 (NA.out.below h3.out.drew.below (Nat.le_refl _))).mono ?_; rintro e w4 ⟨rfl, hb⟩; rw [HZ1.out]; have h4 := hide (h3.out.drew.later hb); have HX4 := hide (HX3.out.drew.later hb); have HY4 := hide (HY3.out.drew.later hb); clear hb; obtain ⟨ka4, kb4, -, -⟩ := h4.out.a; obtain ⟨kc4, kd4, -, -⟩ := h4.out.b; obtain ⟨kHX4, lHX4, -, -⟩ := HX4.out.box.box; try dsimp only at kHX4 lHX4; obtain ⟨kHY4, lHY4, -, -⟩ := HY4.out.box.box; try dsimp only at kHY4 lHY4)
  go_wp2_with fail
  refine hK.out _ _ (by (try dsimp only); go_keep) (fun hHeld => ?_)
  clear hK K
  try simp only [Act.put, List.setIfInBounds_toArray, List.set_cons_zero, List.set_cons_succ]
  refine held_run (v := ?_) 5 121 rfl rfl (by kernel_rfl) (by kernel_rfl) (by kernel_rfl) (fun _ _ _ h => h) (by rfl) ?_ (by assumption) ?_
  rotate_left
  · (intro w hSw; (try dsimp only at hSw); go_simp; with_reducible rfl)
  simp only [Act.put, List.setIfInBounds_toArray, List.set_cons_zero, List.set_cons_succ]
  refine held_run (v := ?_) 6 122 rfl rfl (by kernel_rfl) (by kernel_rfl) (by kernel_rfl) (fun _ _ _ h => h) (by rfl) ?_ (by assumption) ?_
  rotate_left
  · (intro w hSw; (try dsimp only at hSw); go_simp; with_reducible rfl)
  simp only [Act.put, List.setIfInBounds_toArray, List.set_cons_zero, List.set_cons_succ]
  refine held_run (v := ?_) 7 123 rfl rfl (by kernel_rfl) (by kernel_rfl) (by kernel_rfl) (fun _ _ _ h => h) (by rfl) ?_ (by assumption) ?_
  rotate_left
  · (intro w hSw; (try dsimp only at hSw); go_simp; with_reducible rfl)
  simp only [Act.put, List.setIfInBounds_toArray, List.set_cons_zero, List.set_cons_succ]
  refine held_run (v := ?_) 8 124 rfl rfl (by kernel_rfl) (by kernel_rfl) (by kernel_rfl) (fun _ _ _ h => h) (by rfl) ?_ (by assumption) ?_
  rotate_left
  · (intro w hSw; (try dsimp only at hSw); go_simp; with_reducible rfl)
  simp only [Act.put, List.setIfInBounds_toArray, List.set_cons_zero, List.set_cons_succ]
  refine held_run (v := ?_) 10 126 rfl rfl (by kernel_rfl) (by kernel_rfl) (by kernel_rfl) (fun _ _ _ h => h) (by rfl) ?_ (by assumption) ?_
  rotate_left
  · (intro w hSw; (try dsimp only at hSw); go_simp; with_reducible rfl)
  simp only [Act.put, List.setIfInBounds_toArray, List.set_cons_zero, List.set_cons_succ]
  refine held_run (v := ?_) 11 127 rfl rfl (by kernel_rfl) (by kernel_rfl) (by kernel_rfl) (fun _ _ _ h => h) (by rfl) ?_ (by assumption) ?_
  rotate_left
  · (intro w hSw; (try dsimp only at hSw); go_simp; with_reducible rfl)
  simp only [Act.put, List.setIfInBounds_toArray, List.set_cons_zero, List.set_cons_succ]
  refine wpAnyH_ready (rs := [9]) (by kernel_rfl) (by simp) (AllReadyH.cons (o := _) rfl (fun K hK => ?_) AllReadyH.nil)
  go_simp
  (refine (compare_any _ _ _ xa xb 12 12 (NA.out.below h4.out.below (Nat.le_refl _)) (NB.out.below h4.out.below (Nat.le_refl _))).mono ?_; rintro e w5 ⟨rfl, hb⟩; have h5 := hide (h4.out.later hb); have HX5 := hide (HX4.out.later hb); have HY5 := hide (HY4.out.later hb); clear hb; obtain ⟨ka5, kb5, -, -⟩ := h5.out.a; obtain ⟨kc5, kd5, -, -⟩ := h5.out.b; obtain ⟨kHX5, lHX5, -, -⟩ := HX5.out.box.box; try dsimp only at kHX5 lHX5; obtain ⟨kHY5, lHY5, -, -⟩ := HY5.out.box.box; try dsimp only at kHY5 lHY5)
  go_wp2_with fail
  refine hK.out _ _ (by (try dsimp only); go_keep) (fun hHeld => ?_)
  clear hK K
  try simp only [Act.put, List.setIfInBounds_toArray, List.set_cons_zero, List.set_cons_succ]
  refine wpAnyH_ready (rs := [12]) (by kernel_rfl) (by simp) (AllReadyH.cons (o := _) rfl (fun K hK => ?_) AllReadyH.nil)
  go_simp
  (refine (cmp_any _ _ _ xa xb 36 36 (by exact HX5.out.num) (by exact HY5.out.num)).mono ?_; rintro e w6 ⟨rfl, hb⟩; generalize cmpI xa xb = cz at *; have h6 := hide (h5.out.later hb); have HX6 := hide (HX5.out.later hb); have HY6 := hide (HY5.out.later hb); clear hb; obtain ⟨ka6, kb6, -, -⟩ := h6.out.a; obtain ⟨kc6, kd6, -, -⟩ := h6.out.b; obtain ⟨kHX6, lHX6, -, -⟩ := HX6.out.box.box; try dsimp only at kHX6 lHX6; obtain ⟨kHY6, lHY6, -, -⟩ := HY6.out.box.box; try dsimp only at kHY6 lHY6)
  go_wp2_with fail
  refine hK.out _ _ (by (try dsimp only); go_keep) (fun hHeld => ?_)
  clear hK K
  try simp only [Act.put, List.setIfInBounds_toArray, List.set_cons_zero, List.set_cons_succ]
  refine held_run (v := ?_) 13 129 rfl rfl (by kernel_rfl) (by kernel_rfl) (by kernel_rfl) (fun _ _ _ h => h) (by rfl) ?_ (by assumption) ?_
  rotate_left
  · (intro w hSw; (try dsimp only at hSw); go_simp; with_reducible rfl)
  simp only [Act.put, List.setIfInBounds_toArray, List.set_cons_zero, List.set_cons_succ]
  refine held_run (v := ?_) 14 130 rfl rfl (by kernel_rfl) (by kernel_rfl) (by kernel_rfl) (fun _ _ _ h => h) (by rfl) ?_ (by assumption) ?_
  rotate_left
  · (intro w hSw; (try dsimp only at hSw); go_simp; with_reducible rfl)
  simp only [Act.put, List.setIfInBounds_toArray, List.set_cons_zero, List.set_cons_succ]
  refine wpAnyH_done (by kernel_rfl) ?_ _
  have h7 := h6; have HX7 := HX6; have HY7 := HY6
  clear h3 h4 h5 h6 HX3 HX4 HX5 HX6 HY3 HY4 HY5 HY6 a0 a1 b0 b1 x0 x1 y0 y1 hz2 HZ1 hHeld
  clear ka4 kb4 kc4 kd4 kHX4 lHX4 kHY4 lHY4 ka5 kb5 kc5 kd5 kHX5 lHX5 kHY5 lHY5 ka6 kb6 kc6 kd6 kHX6 lHX6 kHY6 lHY6
  obtain ⟨a0, a1, -, -⟩ := h7.out.a
  obtain ⟨b0, b1, -, -⟩ := h7.out.b
  go_upto_region 13 with fail
  go_cut [12] from 30 (fun v wc => ∃ (H : Nat) (p1 p2 p3 p4 p5 : Nm), v = .slice (some ⟨H, 0, none⟩) 5 5 ∧ BS w wc (.bool an) (.slice ao a.length ac) (.bool bn) (.slice bo b.length bc) ∧ RVar wc X ⟨xs, xo, xl, xc⟩ xa 36 ∧ RVar wc Y ⟨ys, yo, yl, yc⟩ xb 36 ∧ FiveL wc H p1 p2 p3 p4 p5 (-xa) (if xa < 0 then -xa else xa) (xa + xb) (xa - xb) (xa * xb) ∧ Y < H)
  case first =>
    refine upto_start (S := (fun w' => w'.cell? ⟨w.heap.size, 0, none⟩ = some (.bool an) ∧ w'.cell? ⟨w.heap.size, 1, none⟩ = some (.slice ao a.length ac) ∧ w'.cell? ⟨w.heap.size + 1, 0, none⟩ = some (.bool bn) ∧ w'.cell? ⟨w.heap.size + 1, 1, none⟩ = some (.slice bo b.length bc))) (k := 15) (by kernel_rfl) (by (try dsimp only); go_keep) (fun hHeld => ?_)
    refine upto_run (v := ?_) 0 131 [] rfl rfl (by kernel_rfl) (by kernel_rfl) (by kernel_rfl) (by kernel_rfl) (by kernel_rfl) (fun _ _ _ h => h) (by rfl) ?_ (by assumption) ?_
    rotate_left
    · (intro w hSw; (try dsimp only at hSw); go_simp; with_reducible rfl)
    simp only [Act.put, List.setIfInBounds_toArray, List.set_cons_zero, List.set_cons_succ]
    refine upto_run (v := ?_) 2 133 [] rfl rfl (by kernel_rfl) (by kernel_rfl) (by kernel_rfl) (by kernel_rfl) (by kernel_rfl) (fun _ _ _ h => h) (by rfl) ?_ (by assumption) ?_
    rotate_left
    · (intro w hSw; (try dsimp only at hSw); go_simp; with_reducible rfl)
    simp only [Act.put, List.setIfInBounds_toArray, List.set_cons_zero, List.set_cons_succ]
    refine upto_run (v := ?_) 4 135 [] rfl rfl (by kernel_rfl) (by kernel_rfl) (by kernel_rfl) (by kernel_rfl) (by kernel_rfl) (fun _ _ _ h => h) (by rfl) ?_ (by assumption) ?_
    rotate_left
    · (intro w hSw; (try dsimp only at hSw); go_simp; with_reducible rfl)
    simp only [Act.put, List.setIfInBounds_toArray, List.set_cons_zero, List.set_cons_succ]
    refine upto_run (v := ?_) 5 136 [] rfl rfl (by kernel_rfl) (by kernel_rfl) (by kernel_rfl) (by kernel_rfl) (by kernel_rfl) (fun _ _ _ h => h) (by rfl) ?_ (by assumption) ?_
    rotate_left
    · (intro w hSw; (try dsimp only at hSw); go_simp; with_reducible rfl)
    simp only [Act.put, List.setIfInBounds_toArray, List.set_cons_zero, List.set_cons_succ]
    refine upto_run (v := ?_) 7 138 [] rfl rfl (by kernel_rfl) (by kernel_rfl) (by kernel_rfl) (by kernel_rfl) (by kernel_rfl) (fun _ _ _ h => h) (by rfl) ?_ (by assumption) ?_
    rotate_left
    · (intro w hSw; (try dsimp only at hSw); go_simp; with_reducible rfl)
    simp only [Act.put, List.setIfInBounds_toArray, List.set_cons_zero, List.set_cons_succ]
    refine upto_run (v := ?_) 8 139 [] rfl rfl (by kernel_rfl) (by kernel_rfl) (by kernel_rfl) (by kernel_rfl) (by kernel_rfl) (fun _ _ _ h => h) (by rfl) ?_ (by assumption) ?_
    rotate_left
    · (intro w hSw; (try dsimp only at hSw); go_simp; with_reducible rfl)
    simp only [Act.put, List.setIfInBounds_toArray, List.set_cons_zero, List.set_cons_succ]
    refine upto_run (v := ?_) 10 141 [] rfl rfl (by kernel_rfl) (by kernel_rfl) (by kernel_rfl) (by kernel_rfl) (by kernel_rfl) (fun _ _ _ h => h) (by rfl) ?_ (by assumption) ?_
    rotate_left
    · (intro w hSw; (try dsimp only at hSw); go_simp; with_reducible rfl)
    simp only [Act.put, List.setIfInBounds_toArray, List.set_cons_zero, List.set_cons_succ]
    refine upto_run (v := ?_) 11 142 [] rfl rfl (by kernel_rfl) (by kernel_rfl) (by kernel_rfl) (by kernel_rfl) (by kernel_rfl) (fun _ _ _ h => h) (by rfl) ?_ (by assumption) ?_
    rotate_left
    · (intro w hSw; (try dsimp only at hSw); go_simp; with_reducible rfl)
    simp only [Act.put, List.setIfInBounds_toArray, List.set_cons_zero, List.set_cons_succ]
    refine upto_one 1 (by kernel_rfl) rfl (fun K hK => ?_)
    go_simp
    (refine (neg_any _ _ xa 12 (NA.out.below h7.out.drew.below (Nat.le_refl _)) (by decide)).mono ?_; rintro e w8 ⟨r, rfl, hr, hb⟩; obtain ⟨⟨p1n, p1o, p1l, p1c⟩, rfl⟩ := hr.nm; have Np1 := hide (hr.mono (show _ ≤ 25 by decide)); clear hr; try dsimp only at Np1; have h8 := hide (h7.out.drew.later hb); have HX8 := hide (HX7.out.drew.later hb); have HY8 := hide (HY7.out.drew.later hb); clear hb; obtain ⟨ka8, kb8, -, -⟩ := h8.out.a; obtain ⟨kc8, kd8, -, -⟩ := h8.out.b; obtain ⟨kHX8, lHX8, -, -⟩ := HX8.out.box.box; try dsimp only at kHX8 lHX8; obtain ⟨kHY8, lHY8, -, -⟩ := HY8.out.box.box; try dsimp only at kHY8 lHY8)
    go_wp2_with fail
    refine hK.out _ _ (fun _ => by (try dsimp only); go_keep) ?_
    clear hK K
    try simp only [Act.put, List.setIfInBounds_toArray, List.set_cons_zero, List.set_cons_succ]
    refine upto_one 3 (by kernel_rfl) rfl (fun K hK => ?_)
    go_simp
    (refine (abs_any _ _ xa 12 (NA.out.below h8.out.below (Nat.le_refl _)) (by decide)).mono ?_; rintro e w9 ⟨r, rfl, hr, hb⟩; replace Np1 := hide (Np1.out.below hb (Nat.le_refl _)); obtain ⟨⟨p2n, p2o, p2l, p2c⟩, rfl⟩ := hr.nm; have Np2 := hide (hr.mono (show _ ≤ 25 by decide)); clear hr; try dsimp only at Np2; have h9 := hide (h8.out.later hb); have HX9 := hide (HX8.out.later hb); have HY9 := hide (HY8.out.later hb); clear hb; obtain ⟨ka9, kb9, -, -⟩ := h9.out.a; obtain ⟨kc9, kd9, -, -⟩ := h9.out.b; obtain ⟨kHX9, lHX9, -, -⟩ := HX9.out.box.box; try dsimp only at kHX9 lHX9; obtain ⟨kHY9, lHY9, -, -⟩ := HY9.out.box.box; try dsimp only at kHY9 lHY9)
    go_wp2_with fail
    refine hK.out _ _ (fun _ => by (try dsimp only); go_keep) ?_
    clear hK K
    try simp only [Act.put, List.setIfInBounds_toArray, List.set_cons_zero, List.set_cons_succ]
    refine upto_one 6 (by kernel_rfl) rfl (fun K hK => ?_)
    go_simp
    (refine (add_any _ _ _ xa xb 12 (NA.out.below h9.out.below (Nat.le_refl _)) (NB.out.below h9.out.below (Nat.le_refl _)) (by decide)).mono ?_; rintro e w10 ⟨r, rfl, hr, hb⟩; replace Np1 := hide (Np1.out.below hb (Nat.le_refl _)); replace Np2 := hide (Np2.out.below hb (Nat.le_refl _)); obtain ⟨⟨p3n, p3o, p3l, p3c⟩, rfl⟩ := hr.nm; have Np3 := hide (hr.mono (show _ ≤ 25 by decide)); clear hr; try dsimp only at Np3; have h10 := hide (h9.out.later hb); have HX10 := hide (HX9.out.later hb); have HY10 := hide (HY9.out.later hb); clear hb; obtain ⟨ka10, kb10, -, -⟩ := h10.out.a; obtain ⟨kc10, kd10, -, -⟩ := h10.out.b; obtain ⟨kHX10, lHX10, -, -⟩ := HX10.out.box.box; try dsimp only at kHX10 lHX10; obtain ⟨kHY10, lHY10, -, -⟩ := HY10.out.box.box; try dsimp only at kHY10 lHY10)
    go_wp2_with fail
    refine hK.out _ _ (fun _ => by (try dsimp only); go_keep) ?_
    clear hK K
    try simp only [Act.put, List.setIfInBounds_toArray, List.set_cons_zero, List.set_cons_succ]
    refine upto_one 9 (by kernel_rfl) rfl (fun K hK => ?_)
    go_simp
    (refine (sub_any _ _ _ xa xb 12 (NA.out.below h10.out.below (Nat.le_refl _)) (NB.out.below h10.out.below (Nat.le_refl _)) (by decide)).mono ?_; rintro e w11 ⟨r, rfl, hr, hb⟩; replace Np1 := hide (Np1.out.below hb (Nat.le_refl _)); replace Np2 := hide (Np2.out.below hb (Nat.le_refl _)); replace Np3 := hide (Np3.out.below hb (Nat.le_refl _)); obtain ⟨⟨p4n, p4o, p4l, p4c⟩, rfl⟩ := hr.nm; have Np4 := hide (hr.mono (show _ ≤ 25 by decide)); clear hr; try dsimp only at Np4; have h11 := hide (h10.out.later hb); have HX11 := hide (HX10.out.later hb); have HY11 := hide (HY10.out.later hb); clear hb; obtain ⟨ka11, kb11, -, -⟩ := h11.out.a; obtain ⟨kc11, kd11, -, -⟩ := h11.out.b; obtain ⟨kHX11, lHX11, -, -⟩ := HX11.out.box.box; try dsimp only at kHX11 lHX11; obtain ⟨kHY11, lHY11, -, -⟩ := HY11.out.box.box; try dsimp only at kHY11 lHY11)
    go_wp2_with fail
    refine hK.out _ _ (fun _ => by (try dsimp only); go_keep) ?_
    clear hK K
    try simp only [Act.put, List.setIfInBounds_toArray, List.set_cons_zero, List.set_cons_succ]
    refine upto_one 12 (by kernel_rfl) rfl (fun K hK => ?_)
    go_simp
    (refine (mul_any _ _ _ xa xb 12 12 (NA.out.below h11.out.below (Nat.le_refl _)) (NB.out.below h11.out.below (Nat.le_refl _)) (by decide) (by decide)).mono ?_; rintro e w12 ⟨r, rfl, hr, hb⟩; replace Np1 := hide (Np1.out.below hb (Nat.le_refl _)); replace Np2 := hide (Np2.out.below hb (Nat.le_refl _)); replace Np3 := hide (Np3.out.below hb (Nat.le_refl _)); replace Np4 := hide (Np4.out.below hb (Nat.le_refl _)); obtain ⟨⟨p5n, p5o, p5l, p5c⟩, rfl⟩ := hr.nm; have Np5 := hide (hr.mono (show _ ≤ 25 by decide)); clear hr; try dsimp only at Np5; have h12 := hide (h11.out.later hb); have HX12 := hide (HX11.out.later hb); have HY12 := hide (HY11.out.later hb); clear hb; obtain ⟨ka12, kb12, -, -⟩ := h12.out.a; obtain ⟨kc12, kd12, -, -⟩ := h12.out.b; obtain ⟨kHX12, lHX12, -, -⟩ := HX12.out.box.box; try dsimp only at kHX12 lHX12; obtain ⟨kHY12, lHY12, -, -⟩ := HY12.out.box.box; try dsimp only at kHY12 lHY12)
    go_wp2_with fail
    refine hK.out _ _ (fun _ => by (try dsimp only); go_keep) ?_
    clear hK K
    try simp only [Act.put, List.setIfInBounds_toArray, List.set_cons_zero, List.set_cons_succ]
    refine upto_one 13 (by kernel_rfl) rfl (fun K hK => ?_)
    go_simp
    refine hK.out _ _ (fun _ => by (try dsimp only); go_keep) ?_
    clear hK K
    try simp only [Act.put, List.setIfInBounds_toArray, List.set_cons_zero, List.set_cons_succ]
    refine upto_one 14 (by kernel_rfl) rfl (fun K hK => ?_)
    go_simp
    refine hK.out _ _ (fun _ => by (try dsimp only); go_keep) ?_
    clear hK K
    try simp only [Act.put, List.setIfInBounds_toArray, List.set_cons_zero, List.set_cons_succ]
    refine upto_done (by kernel_rfl) ?_
    have hbA : Below w12.heap.size w12 (w12.alloc (.cells #[.bool p1n, .slice p1o p1l p1c, .bool p2n, .slice p2o p2l p2c, .bool p3n, .slice p3o p3l p3c, .bool p4n, .slice p4o p4l p4c, .bool p5n, .slice p5o p5l p5c] 33)) := (Below.refl _ _).alloc (Nat.le_refl _) _
    have HG := hide (show FiveL (w12.alloc (.cells #[.bool p1n, .slice p1o p1l p1c, .bool p2n, .slice p2o p2l p2c, .bool p3n, .slice p3o p3l p3c, .bool p4n, .slice p4o p4l p4c, .bool p5n, .slice p5o p5l p5c] 33)) w12.heap.size ⟨p1n, p1o, p1l, p1c⟩ ⟨p2n, p2o, p2l, p2c⟩ ⟨p3n, p3o, p3l, p3c⟩ ⟨p4n, p4o, p4l, p4c⟩ ⟨p5n, p5o, p5l, p5c⟩ (-xa) (if xa < 0 then -xa else xa) (xa + xb) (xa - xb) (xa * xb) from ⟨heap_alloc_new w12 _, Np1.out.below hbA (Nat.le_refl _), Np2.out.below hbA (Nat.le_refl _), Np3.out.below hbA (Nat.le_refl _), Np4.out.below hbA (Nat.le_refl _), Np5.out.below hbA (Nat.le_refl _)⟩)
    have h13 := hide (h12.out.later hbA)
    have HX13 := hide (HX12.out.later hbA)
    have HY13 := hide (HY12.out.later hbA)
    have hH : Y < w12.heap.size := HY12.out.box.lt
    clear h7 h8 h9 h10 h11 h12 HX7 HX8 HX9 HX10 HX11 HX12 HY7 HY8 HY9 HY10 HY11 HY12 Np1 Np2 Np3 Np4 Np5 a0 a1 b0 b1 hHeld hbA
    clear ka8 kb8 kc8 kd8 kHX8 lHX8 kHY8 lHY8 ka9 kb9 kc9 kd9 kHX9 lHX9 kHY9 lHY9 ka10 kb10 kc10 kd10 kHX10 lHX10 kHY10 lHY10 ka11 kb11 kc11 kd11 kHX11 lHX11 kHY11 lHY11 ka12 kb12 kc12 kd12 kHX12 lHX12 kHY12 lHY12
    go_wp2_with fail
    go_meet
    case rel => exact ⟨_, ⟨p1n, p1o, p1l, p1c⟩, ⟨p2n, p2o, p2l, p2c⟩, ⟨p3n, p3o, p3l, p3c⟩, ⟨p4n, p4o, p4l, p4c⟩, ⟨p5n, p5o, p5l, p5c⟩, rfl, h13.out, HX13.out, HY13.out, HG.out, hH⟩
  case rest =>
  obtain ⟨H, ⟨p1n, p1o, p1l, p1c⟩, ⟨p2n, p2o, p2l, p2c⟩, ⟨p3n, p3o, p3l, p3c⟩, ⟨p4n, p4o, p4l, p4c⟩, ⟨p5n, p5o, p5l, p5c⟩, rfl, hh, hx, hy, hg, hH⟩ := hcut
  apply_assumption
  exact bigSays_H w wc HTB.out an bn ao bo ac bc a b xa xb X Y xs xo xl xc ys yo yl yc H p1n p1o p1l p1c p2n p2o p2l p2c p3n p3o p3l p3c p4n p4o p4l p4c p5n p5o p5l p5c NA.out NB.out hh hx hy hg hH hX hXY _ _ _ _ _ _ _ _ _ _ _ _ _ _ _ _ _ _ _ _ _ _ _ _ _ _ _ _ _ _ _ _ _ _ _ _ _ _ _ _ _ _ _ _ _ _ _ _ _ _ _ _ _ _ _ _ _ _ _ _ _ _ _ _ _ _ _ _ _ _ _ _ _ _ _ _ _ _ _ _ _ _ _ _ _ _ _ _ _ _ _ _ _ _ _ _ _ _ _ _ _ _ _ _ _ _ _ _ _ _ _ _ _ _ _ _ _ _ _ _ _ _ _ _ _ _ _ _ _ _ _ _ _ _ _ _ _ _ _ _ _ _ _ _ _ _ _ _ _ _ _ _ _ _ _ _ _ _ _ _ _ _ _ _ _ _ _ _ _ _ _ _ _ _ _ _ _ _ _ _ _ _ _ _ _ _ _ _ _ _ _ _ _ _ _ _ _ _ _ _ _ _ _ _ _ _ _ _ _ _ _ _ _ _ _ _ _ _ _ _ _ _ _ _ _ _ _ _ _ _ _ _ _ _ _ _ _ _ _ _ _ _ _ _ _ _ _ _ _ _ _ _ _ _ _ _ _ _ _ _ _ _ _ _ _ _ _ _ _ _ _ _ _ _ _ _ _ _

end Go.Proofs.YtaijeimgbbpgiaaDoor
