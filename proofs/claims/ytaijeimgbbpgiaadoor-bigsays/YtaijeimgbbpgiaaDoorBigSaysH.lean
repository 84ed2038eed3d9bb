/- BigSays: five of the reference's numbers. -/
import Derived.Test.YtaijeimgbbpgiaaDoorBigSaysG
namespace Go.Proofs.YtaijeimgbbpgiaaDoor
open Go.RowKit Limbs Digs

set_option linter.unusedSimpArgs false in
set_option maxRecDepth 100000 in
set_option maxHeartbeats 6400000 in
theorem bigSays_H (w W : World) (ht : Tab w) (an bn : Bool) (ao bo : Option Addr) (ac bc : Nat) (a b : List Int) (xa xb : Int) (X Y : Nat) (xs : Int) (xo : Option Addr) (xl xc : Nat) (ys : Int) (yo : Option Addr) (yl yc : Nat) (H : Nat) (p1n : Bool) (p1o : Option Addr) (p1l p1c : Nat) (p2n : Bool) (p2o : Option Addr) (p2l p2c : Nat) (p3n : Bool) (p3o : Option Addr) (p3l p3c : Nat) (p4n : Bool) (p4o : Option Addr) (p4l p4c : Nat) (p5n : Bool) (p5o : Option Addr) (p5l p5c : Nat)
    (hxa : NumL w (.agg #[.bool an, .slice ao a.length ac]) xa 12) (hxb : NumL w (.agg #[.bool bn, .slice bo b.length bc]) xb 12)
    (h0 : BS w W (.bool an) (.slice ao a.length ac) (.bool bn) (.slice bo b.length bc)) (hx0 : RVar W X ⟨xs, xo, xl, xc⟩ xa 36) (hy0 : RVar W Y ⟨ys, yo, yl, yc⟩ xb 36) (hg : FiveL W H ⟨p1n, p1o, p1l, p1c⟩ ⟨p2n, p2o, p2l, p2c⟩ ⟨p3n, p3o, p3l, p3c⟩ ⟨p4n, p4o, p4l, p4c⟩ ⟨p5n, p5o, p5l, p5c⟩ (-xa) (if xa < 0 then -xa else xa) (xa + xb) (xa - xb) (xa * xb)) (hY : Y < H) (hX : w.heap.size + 1 < X) (hXY : X < Y)
    (sl0 sl1 sl2 sl5 sl6 sl7 sl8 sl9 sl13 sl14 sl15 sl16 sl17 sl18 sl19 sl20 sl21 sl22 sl23 sl24 sl25 sl26 sl27 sl28 sl29 sl30 sl31 sl32 sl33 sl34 sl35 sl36 sl37 sl38 sl39 sl40 sl41 sl42 sl43 sl44 sl45 sl46 sl47 sl48 sl49 sl50 sl51 sl52 sl53 sl54 sl55 sl56 sl57 sl58 sl59 sl60 sl61 sl62 sl63 sl64 sl65 sl66 sl67 sl68 sl69 sl70 sl71 sl72 sl73 sl74 sl75 sl76 sl77 sl78 sl79 sl80 sl81 sl82 sl83 sl84 sl85 sl86 sl87 sl88 sl89 sl90 sl91 sl92 sl93 sl94 sl95 sl96 sl97 sl98 sl99 sl100 sl101 sl102 sl103 sl104 sl105 sl106 sl107 sl108 sl109 sl110 sl111 sl112 sl113 sl114 sl115 sl116 sl117 sl118 sl119 sl120 sl121 sl122 sl123 sl124 sl125 sl126 sl127 sl128 sl129 sl130 sl131 sl132 sl133 sl134 sl135 sl136 sl137 sl138 sl139 sl140 sl141 sl142 sl143 sl144 sl145 sl146 sl147 sl148 sl149 sl150 sl151 sl152 sl153 sl154 sl155 sl156 sl157 sl158 sl159 sl160 sl161 sl162 sl163 sl164 sl165 sl166 sl167 sl168 sl169 sl170 sl171 sl172 sl173 sl174 sl175 sl176 sl177 sl178 sl179 sl180 sl181 sl182 sl183 sl184 sl185 sl186 sl187 sl188 sl189 sl190 sl191 sl192 sl193 sl194 sl195 sl196 sl197 sl198 sl199 sl200 sl201 sl202 sl203 sl204 sl205 sl206 sl207 sl208 sl209 sl210 sl211 sl212 sl213 sl214 sl215 sl216 sl217 sl218 sl219 sl220 sl221 sl222 sl223 sl224 sl225 sl226 sl227 sl228 sl229 sl230 sl231 sl232 sl233 sl234 sl235 sl236 sl237 sl238 sl239 sl240 sl241 sl242 sl243 sl244 sl245 sl246 sl247 sl248 sl249 sl250 sl251 sl252 sl253 sl254 sl255 sl256 sl257 sl258 sl259 sl260 sl261 sl262 sl263 sl264 sl265 sl266 sl267 sl268 sl269 sl270 sl271 sl272 sl273 sl274 sl275 sl276 sl277 sl278 sl279 sl280 sl281 sl282 : Value) :
    (Code.tl (Code.tl (Code.tl (Code.tl (Code.tl (Code.tl (Code.tl (Code.tl (Code.tl (Code.tl ((Tryd.f4.body).getD .skip))))))))))).wp Tryd.prog (bodyPost Tryd.prog Tryd.f4 (fun e w' => e = .returned (.bool true) ∧ Below w.heap.size w w')) ⟨#[sl0, sl1, sl2, .pointer (some ⟨w.heap.size, 0, none⟩), .pointer (some ⟨w.heap.size + 1, 0, none⟩), sl5, sl6, sl7, sl8, sl9, .pointer (some ⟨X, 0, none⟩), .pointer (some ⟨Y, 0, none⟩), .slice (some ⟨H, 0, none⟩) 5 5, sl13, sl14, sl15, sl16, sl17, sl18, sl19, sl20, sl21, sl22, sl23, sl24, sl25, sl26, sl27, sl28, sl29, sl30, sl31, sl32, sl33, sl34, sl35, sl36, sl37, sl38, sl39, sl40, sl41, sl42, sl43, sl44, sl45, sl46, sl47, sl48, sl49, sl50, sl51, sl52, sl53, sl54, sl55, sl56, sl57, sl58, sl59, sl60, sl61, sl62, sl63, sl64, sl65, sl66, sl67, sl68, sl69, sl70, sl71, sl72, sl73, sl74, sl75, sl76, sl77, sl78, sl79, sl80, sl81, sl82, sl83, sl84, sl85, sl86, sl87, sl88, sl89, sl90, sl91, sl92, sl93, sl94, sl95, sl96, sl97, sl98, sl99, sl100, sl101, sl102, sl103, sl104, sl105, sl106, sl107, sl108, sl109, sl110, sl111, sl112, sl113, sl114, sl115, sl116, sl117, sl118, sl119, sl120, sl121, sl122, sl123, sl124, sl125, sl126, sl127, sl128, sl129, sl130, sl131, sl132, sl133, sl134, sl135, sl136, sl137, sl138, sl139, sl140, sl141, sl142, sl143, sl144, sl145, sl146, sl147, sl148, sl149, sl150, sl151, sl152, sl153, sl154, sl155, sl156, sl157, sl158, sl159, sl160, sl161, sl162, sl163, sl164, sl165, sl166, sl167, sl168, sl169, sl170, sl171, sl172, sl173, sl174, sl175, sl176, sl177, sl178, sl179, sl180, sl181, sl182, sl183, sl184, sl185, sl186, sl187, sl188, sl189, sl190, sl191, sl192, sl193, sl194, sl195, sl196, sl197, sl198, sl199, sl200, sl201, sl202, sl203, sl204, sl205, sl206, sl207, sl208, sl209, sl210, sl211, sl212, sl213, sl214, sl215, sl216, sl217, sl218, sl219, sl220, sl221, sl222, sl223, sl224, sl225, sl226, sl227, sl228, sl229, sl230, sl231, sl232, sl233, sl234, sl235, sl236, sl237, sl238, sl239, sl240, sl241, sl242, sl243, sl244, sl245, sl246, sl247, sl248, sl249, sl250, sl251, sl252, sl253, sl254, sl255, sl256, sl257, sl258, sl259, sl260, sl261, sl262, sl263, sl264, sl265, sl266, sl267, sl268, sl269, sl270, sl271, sl272, sl273, sl274, sl275, sl276, sl277, sl278, sl279, sl280, sl281, sl282], []⟩ W := by
  simp only [Code.tl, Tryd.f4, Option.getD_some]
  have NA := hide hxa; have NB := hide hxb; have HTB := hide ht
  clear hxa hxb ht
  have h13 := hide h0; have HX13 := hide hx0; have HY13 := hide hy0; have HG := hide hg
  clear h0 hx0 hy0 hg
  generalize W = W13 at *
  have hbA : Below W13.heap.size W13 (W13.alloc (.cells #[.int .i64 xs, .slice xo xl xc] 42)) := (Below.refl _ _).alloc (Nat.le_refl _) _
  have h14 := hide (h13.out.later hbA)
  have HX14 := hide (HX13.out.later hbA)
  have HY14 := hide (HY13.out.later hbA)
  have HG14 := hide (HG.out.later hbA)
  have HZ14 := hide (rvar_new W13 ⟨xs, xo, xl, xc⟩ xa 36 HX13.out.num)
  have hZ : H < W13.heap.size := heap_lt HG.out.row
  obtain ⟨x0, x1, -, -⟩ := HX13.out.box.box
  obtain ⟨x2, x3, -, -⟩ := HX14.out.box.box
  try dsimp only at x0 x1 x2 x3 HZ14
  clear h13 HX13 HY13 HG
  go_upto_if 148 with fail
  generalize W13.alloc (.cells #[.int .i64 xs, .slice xo xl xc] 42) = W14 at *
  generalize W13.heap.size = Z at *
  clear x0 x1 hbA
  go_cut [] from 30 (fun wc => BS w wc (.bool an) (.slice ao a.length ac) (.bool bn) (.slice bo b.length bc) ∧ RVar wc X ⟨xs, xo, xl, xc⟩ xa 36 ∧ RVar wc Y ⟨ys, yo, yl, yc⟩ xb 36 ∧ FiveL wc H ⟨p1n, p1o, p1l, p1c⟩ ⟨p2n, p2o, p2l, p2c⟩ ⟨p3n, p3o, p3l, p3c⟩ ⟨p4n, p4o, p4l, p4c⟩ ⟨p5n, p5o, p5l, p5c⟩ (-xa) (if xa < 0 then -xa else xa) (xa + xb) (xa - xb) (xa * xb) ∧ ∃ rz : Rm, RVar wc Z rz (if xa < 0 then -xa else xa) 36)
  case first =>
    have hsg := HX14.out.num.sign
    dsimp only at hsg
    by_cases hx : xa < 0
    · have hxs : xs < 0 := by omega
      obtain ⟨z0, z1, z2, z3⟩ := HZ14.out.box.box
      dsimp only at z0 z1 z2 z3
      go_wp2_with fail
      refine (minus_any _ _ xa 36 HX14.out.num).mono ?_
      rintro e w15 ⟨r, rfl, hr, hb⟩
      rw [← (if_pos hx : (if xa < 0 then -xa else xa) = -xa)] at hr
      obtain ⟨⟨zs, zo, zl, zc⟩, rfl⟩ := hr.rm
      have h15 := hide (h14.out.later hb)
      have HX15 := hide (HX14.out.later hb)
      have HY15 := hide (HY14.out.later hb)
      have HG15 := hide (HG14.out.later hb)
      have HZ15 := hide (HZ14.out.later hb)
      have HR := hide hr
      clear hr hb z0 z1 z2 z3
      obtain ⟨z0, z1, z2, z3⟩ := HZ15.out.box.box
      dsimp only at z0 z1 z2 z3 HR
      have HF := hide (show BS w _ (.bool an) (.slice ao a.length ac) (.bool bn) (.slice bo b.length bc) ∧ RVar _ X ⟨xs, xo, xl, xc⟩ xa 36 ∧ RVar _ Y ⟨ys, yo, yl, yc⟩ xb 36 ∧ FiveL _ H ⟨p1n, p1o, p1l, p1c⟩ ⟨p2n, p2o, p2l, p2c⟩ ⟨p3n, p3o, p3l, p3c⟩ ⟨p4n, p4o, p4l, p4c⟩ ⟨p5n, p5o, p5l, p5c⟩ (-xa) (if xa < 0 then -xa else xa) (xa + xb) (xa - xb) (xa * xb) ∧ ∃ rz : Rm, RVar _ Z rz (if xa < 0 then -xa else xa) 36 from ⟨h15.out.wrote (C := Z) (by omega) (.int .i64 zs) (.slice zo zl zc), HX15.out.other HZ15.out.box (by omega) (.int .i64 zs) (.slice zo zl zc), HY15.out.other HZ15.out.box (by omega) (.int .i64 zs) (.slice zo zl zc), HG15.out.wrote HZ15.out.box (by omega) (by simp) (by simp) (.int .i64 zs) (.slice zo zl zc), ⟨zs, zo, zl, zc⟩, RVar.write (r := ⟨zs, zo, zl, zc⟩) HZ15.out.box HR.out⟩)
      clear h14 HX14 HY14 HG14 HZ14 h15 HX15 HY15 HG15 HZ15 HR
      go_wp2
      go_meet
      case rel => exact HF.out
    · have hxs : ¬ (xs < 0) := by omega
      have hxd : decide (xs < 0) = false := decide_eq_false hxs
      rw [← (if_neg hx : (if xa < 0 then -xa else xa) = xa)] at HZ14
      have HF := hide (show BS w W14 (.bool an) (.slice ao a.length ac) (.bool bn) (.slice bo b.length bc) ∧ RVar W14 X ⟨xs, xo, xl, xc⟩ xa 36 ∧ RVar W14 Y ⟨ys, yo, yl, yc⟩ xb 36 ∧ FiveL W14 H ⟨p1n, p1o, p1l, p1c⟩ ⟨p2n, p2o, p2l, p2c⟩ ⟨p3n, p3o, p3l, p3c⟩ ⟨p4n, p4o, p4l, p4c⟩ ⟨p5n, p5o, p5l, p5c⟩ (-xa) (if xa < 0 then -xa else xa) (xa + xb) (xa - xb) (xa * xb) ∧ ∃ rz : Rm, RVar W14 Z rz (if xa < 0 then -xa else xa) 36 from ⟨h14.out, HX14.out, HY14.out, HG14.out, ⟨xs, xo, xl, xc⟩, HZ14.out⟩)
      clear h14 HX14 HY14 HG14 HZ14
      go_wp2
      go_meet
      case rel => exact HF.out
  case rest =>
  clear h14 HX14 HY14 HG14 HZ14
  obtain ⟨h16, HX16, HY16, HG16, ⟨zs, zo, zl, zc⟩, HZ16⟩ := hcut
  have h16 := hide h16; have HX16 := hide HX16; have HY16 := hide HY16; have HG16 := hide HG16; have HZ16 := hide HZ16
  generalize wc = W16 at *
  obtain ⟨x0, x1, -, -⟩ := HX16.out.box.box
  obtain ⟨y0, y1, -, -⟩ := HY16.out.box.box
  obtain ⟨z0, z1, -, -⟩ := HZ16.out.box.box
  try dsimp only at x0 x1 y0 y1 z0 z1
  go_upto_region 17 with fail
  go_cut [14] from 30 (fun v wc => ∃ (K : Nat) (q1 q2 q3 q4 q5 : Rm), v = .slice (some ⟨K, 0, none⟩) 5 5 ∧ BS w wc (.bool an) (.slice ao a.length ac) (.bool bn) (.slice bo b.length bc) ∧ RVar wc X ⟨xs, xo, xl, xc⟩ xa 36 ∧ RVar wc Y ⟨ys, yo, yl, yc⟩ xb 36 ∧ FiveL wc H ⟨p1n, p1o, p1l, p1c⟩ ⟨p2n, p2o, p2l, p2c⟩ ⟨p3n, p3o, p3l, p3c⟩ ⟨p4n, p4o, p4l, p4c⟩ ⟨p5n, p5o, p5l, p5c⟩ (-xa) (if xa < 0 then -xa else xa) (xa + xb) (xa - xb) (xa * xb) ∧ FiveR wc K q1 q2 q3 q4 q5 (-xa) (if xa < 0 then -xa else xa) (xa + xb) (xa - xb) (xa * xb))
  case first =>
    refine upto_start (S := (fun w' => w'.cell? ⟨X, 0, none⟩ = some (.int .i64 xs) ∧ w'.cell? ⟨X, 1, none⟩ = some (.slice xo xl xc) ∧ w'.cell? ⟨Y, 0, none⟩ = some (.int .i64 ys) ∧ w'.cell? ⟨Y, 1, none⟩ = some (.slice yo yl yc) ∧ w'.cell? ⟨Z, 0, none⟩ = some (.int .i64 zs) ∧ w'.cell? ⟨Z, 1, none⟩ = some (.slice zo zl zc))) (k := 14) (by kernel_rfl) (by (try dsimp only); go_keep) (fun hHeld => ?_)
    refine upto_run (v := ?_) 0 151 [] rfl rfl (by kernel_rfl) (by kernel_rfl) (by kernel_rfl) (by kernel_rfl) (by kernel_rfl) (fun _ _ _ h => h) (by rfl) ?_ (by assumption) ?_
    rotate_left
    · (intro w hSw; (try dsimp only at hSw); go_simp; with_reducible rfl)
    simp only [Act.put, List.setIfInBounds_toArray, List.set_cons_zero, List.set_cons_succ]
    refine upto_run (v := ?_) 2 153 [] rfl rfl (by kernel_rfl) (by kernel_rfl) (by kernel_rfl) (by kernel_rfl) (by kernel_rfl) (fun _ _ _ h => h) (by rfl) ?_ (by assumption) ?_
    rotate_left
    · (intro w hSw; (try dsimp only at hSw); go_simp; with_reducible rfl)
    simp only [Act.put, List.setIfInBounds_toArray, List.set_cons_zero, List.set_cons_succ]
    refine upto_run (v := ?_) 3 154 [] rfl rfl (by kernel_rfl) (by kernel_rfl) (by kernel_rfl) (by kernel_rfl) (by kernel_rfl) (fun _ _ _ h => h) (by rfl) ?_ (by assumption) ?_
    rotate_left
    · (intro w hSw; (try dsimp only at hSw); go_simp; with_reducible rfl)
    simp only [Act.put, List.setIfInBounds_toArray, List.set_cons_zero, List.set_cons_succ]
    refine upto_run (v := ?_) 4 155 [] rfl rfl (by kernel_rfl) (by kernel_rfl) (by kernel_rfl) (by kernel_rfl) (by kernel_rfl) (fun _ _ _ h => h) (by rfl) ?_ (by assumption) ?_
    rotate_left
    · (intro w hSw; (try dsimp only at hSw); go_simp; with_reducible rfl)
    simp only [Act.put, List.setIfInBounds_toArray, List.set_cons_zero, List.set_cons_succ]
    refine upto_run (v := ?_) 6 157 [] rfl rfl (by kernel_rfl) (by kernel_rfl) (by kernel_rfl) (by kernel_rfl) (by kernel_rfl) (fun _ _ _ h => h) (by rfl) ?_ (by assumption) ?_
    rotate_left
    · (intro w hSw; (try dsimp only at hSw); go_simp; with_reducible rfl)
    simp only [Act.put, List.setIfInBounds_toArray, List.set_cons_zero, List.set_cons_succ]
    refine upto_run (v := ?_) 7 158 [] rfl rfl (by kernel_rfl) (by kernel_rfl) (by kernel_rfl) (by kernel_rfl) (by kernel_rfl) (fun _ _ _ h => h) (by rfl) ?_ (by assumption) ?_
    rotate_left
    · (intro w hSw; (try dsimp only at hSw); go_simp; with_reducible rfl)
    simp only [Act.put, List.setIfInBounds_toArray, List.set_cons_zero, List.set_cons_succ]
    refine upto_run (v := ?_) 9 160 [] rfl rfl (by kernel_rfl) (by kernel_rfl) (by kernel_rfl) (by kernel_rfl) (by kernel_rfl) (fun _ _ _ h => h) (by rfl) ?_ (by assumption) ?_
    rotate_left
    · (intro w hSw; (try dsimp only at hSw); go_simp; with_reducible rfl)
    simp only [Act.put, List.setIfInBounds_toArray, List.set_cons_zero, List.set_cons_succ]
    refine upto_run (v := ?_) 10 161 [] rfl rfl (by kernel_rfl) (by kernel_rfl) (by kernel_rfl) (by kernel_rfl) (by kernel_rfl) (fun _ _ _ h => h) (by rfl) ?_ (by assumption) ?_
    rotate_left
    · (intro w hSw; (try dsimp only at hSw); go_simp; with_reducible rfl)
    simp only [Act.put, List.setIfInBounds_toArray, List.set_cons_zero, List.set_cons_succ]
    refine upto_one 1 (by kernel_rfl) rfl (fun K hK => ?_)
    go_simp
    (refine (minus_any _ _ xa 36 (by exact HX16.out.num)).mono ?_; rintro e w17 ⟨r, rfl, hr, hb⟩; obtain ⟨⟨q1s, q1o, q1l, q1c⟩, rfl⟩ := hr.rm; have Nq1 := hide (hr.mono (show _ ≤ 80 by decide)); clear hr; try dsimp only at Nq1; have h17 := hide (h16.out.drew.later hb); have HX17 := hide (HX16.out.drew.later hb); have HY17 := hide (HY16.out.drew.later hb); have HG17 := hide (HG16.out.drew.later hb); have HZ17 := hide (HZ16.out.drew.later hb); clear hb; obtain ⟨kx17, lx17, -, -⟩ := HX17.out.box.box; try dsimp only at kx17 lx17; obtain ⟨ky17, ly17, -, -⟩ := HY17.out.box.box; try dsimp only at ky17 ly17; obtain ⟨kz17, lz17, -, -⟩ := HZ17.out.box.box; try dsimp only at kz17 lz17)
    go_wp2_with fail
    refine hK.out _ _ (fun _ => by (try dsimp only); go_keep) ?_
    clear hK K
    try simp only [Act.put, List.setIfInBounds_toArray, List.set_cons_zero, List.set_cons_succ]
    refine upto_one 5 (by kernel_rfl) rfl (fun K hK => ?_)
    go_simp
    (refine (plus_any _ _ _ xa xb 36 (by exact HX17.out.num) (by exact HY17.out.num) (by decide)).mono ?_; rintro e w18 ⟨r, rfl, hr, hb⟩; replace Nq1 := hide (Nq1.out.below hb (Nat.le_refl _)); obtain ⟨⟨q3s, q3o, q3l, q3c⟩, rfl⟩ := hr.rm; have Nq3 := hide (hr.mono (show _ ≤ 80 by decide)); clear hr; try dsimp only at Nq3; have h18 := hide (h17.out.later hb); have HX18 := hide (HX17.out.later hb); have HY18 := hide (HY17.out.later hb); have HG18 := hide (HG17.out.later hb); have HZ18 := hide (HZ17.out.later hb); clear hb; obtain ⟨kx18, lx18, -, -⟩ := HX18.out.box.box; try dsimp only at kx18 lx18; obtain ⟨ky18, ly18, -, -⟩ := HY18.out.box.box; try dsimp only at ky18 ly18; obtain ⟨kz18, lz18, -, -⟩ := HZ18.out.box.box; try dsimp only at kz18 lz18)
    go_wp2_with fail
    refine hK.out _ _ (fun _ => by (try dsimp only); go_keep) ?_
    clear hK K
    try simp only [Act.put, List.setIfInBounds_toArray, List.set_cons_zero, List.set_cons_succ]
    refine upto_one 8 (by kernel_rfl) rfl (fun K hK => ?_)
    go_simp
    (refine (less_any _ _ _ xa xb 36 (by exact HX18.out.num) (by exact HY18.out.num) (by decide)).mono ?_; rintro e w19 ⟨r, rfl, hr, hb⟩; replace Nq1 := hide (Nq1.out.below hb (Nat.le_refl _)); replace Nq3 := hide (Nq3.out.below hb (Nat.le_refl _)); obtain ⟨⟨q4s, q4o, q4l, q4c⟩, rfl⟩ := hr.rm; have Nq4 := hide (hr.mono (show _ ≤ 80 by decide)); clear hr; try dsimp only at Nq4; have h19 := hide (h18.out.later hb); have HX19 := hide (HX18.out.later hb); have HY19 := hide (HY18.out.later hb); have HG19 := hide (HG18.out.later hb); have HZ19 := hide (HZ18.out.later hb); clear hb; obtain ⟨kx19, lx19, -, -⟩ := HX19.out.box.box; try dsimp only at kx19 lx19; obtain ⟨ky19, ly19, -, -⟩ := HY19.out.box.box; try dsimp only at ky19 ly19; obtain ⟨kz19, lz19, -, -⟩ := HZ19.out.box.box; try dsimp only at kz19 lz19)
    go_wp2_with fail
    refine hK.out _ _ (fun _ => by (try dsimp only); go_keep) ?_
    clear hK K
    try simp only [Act.put, List.setIfInBounds_toArray, List.set_cons_zero, List.set_cons_succ]
    refine upto_one 11 (by kernel_rfl) rfl (fun K hK => ?_)
    go_simp
    (refine (times_any _ _ _ xa xb 36 36 (by exact HX19.out.num) (by exact HY19.out.num) (by decide) (by decide)).mono ?_; rintro e w20 ⟨r, rfl, hr, hb⟩; replace Nq1 := hide (Nq1.out.below hb (Nat.le_refl _)); replace Nq3 := hide (Nq3.out.below hb (Nat.le_refl _)); replace Nq4 := hide (Nq4.out.below hb (Nat.le_refl _)); obtain ⟨⟨q5s, q5o, q5l, q5c⟩, rfl⟩ := hr.rm; have Nq5 := hide (hr.mono (show _ ≤ 80 by decide)); clear hr; try dsimp only at Nq5; have h20 := hide (h19.out.later hb); have HX20 := hide (HX19.out.later hb); have HY20 := hide (HY19.out.later hb); have HG20 := hide (HG19.out.later hb); have HZ20 := hide (HZ19.out.later hb); clear hb; obtain ⟨kx20, lx20, -, -⟩ := HX20.out.box.box; try dsimp only at kx20 lx20; obtain ⟨ky20, ly20, -, -⟩ := HY20.out.box.box; try dsimp only at ky20 ly20; obtain ⟨kz20, lz20, -, -⟩ := HZ20.out.box.box; try dsimp only at kz20 lz20)
    go_wp2_with fail
    refine hK.out _ _ (fun _ => by (try dsimp only); go_keep) ?_
    clear hK K
    try simp only [Act.put, List.setIfInBounds_toArray, List.set_cons_zero, List.set_cons_succ]
    refine upto_one 12 (by kernel_rfl) rfl (fun K hK => ?_)
    go_simp
    refine hK.out _ _ (fun _ => by (try dsimp only); go_keep) ?_
    clear hK K
    try simp only [Act.put, List.setIfInBounds_toArray, List.set_cons_zero, List.set_cons_succ]
    refine upto_one 13 (by kernel_rfl) rfl (fun K hK => ?_)
    go_simp
    refine hK.out _ _ (fun _ => by (try dsimp only); go_keep) ?_
    clear hK K
    try simp only [Act.put, List.setIfInBounds_toArray, List.set_cons_zero, List.set_cons_succ]
    refine upto_done (by kernel_rfl) ?_
    have hbA : Below w20.heap.size w20 (w20.alloc (.cells #[.int .i64 q1s, .slice q1o q1l q1c, .int .i64 zs, .slice zo zl zc, .int .i64 q3s, .slice q3o q3l q3c, .int .i64 q4s, .slice q4o q4l q4c, .int .i64 q5s, .slice q5o q5l q5c] 42)) := (Below.refl _ _).alloc (Nat.le_refl _) _
    have HQ := hide (show FiveR (w20.alloc (.cells #[.int .i64 q1s, .slice q1o q1l q1c, .int .i64 zs, .slice zo zl zc, .int .i64 q3s, .slice q3o q3l q3c, .int .i64 q4s, .slice q4o q4l q4c, .int .i64 q5s, .slice q5o q5l q5c] 42)) w20.heap.size ⟨q1s, q1o, q1l, q1c⟩ ⟨zs, zo, zl, zc⟩ ⟨q3s, q3o, q3l, q3c⟩ ⟨q4s, q4o, q4l, q4c⟩ ⟨q5s, q5o, q5l, q5c⟩ (-xa) (if xa < 0 then -xa else xa) (xa + xb) (xa - xb) (xa * xb) from ⟨heap_alloc_new w20 _, Nq1.out.below hbA (Nat.le_refl _), (HZ20.out.num.mono (by decide)).below hbA (Nat.le_refl _), Nq3.out.below hbA (Nat.le_refl _), Nq4.out.below hbA (Nat.le_refl _), Nq5.out.below hbA (Nat.le_refl _)⟩)
    have h21 := hide (h20.out.later hbA)
    have HX21 := hide (HX20.out.later hbA)
    have HY21 := hide (HY20.out.later hbA)
    have HG21 := hide (HG20.out.later hbA)
    clear h16 h17 h18 h19 h20 HX16 HX17 HX18 HX19 HX20 HY16 HY17 HY18 HY19 HY20 HG16 HG17 HG18 HG19 HG20 HZ16 HZ17 HZ18 HZ19 HZ20 Nq1 Nq3 Nq4 Nq5 hbA x0 x1 y0 y1 z0 z1
    go_wp2_with fail
    go_meet
    case rel => exact ⟨_, ⟨q1s, q1o, q1l, q1c⟩, ⟨zs, zo, zl, zc⟩, ⟨q3s, q3o, q3l, q3c⟩, ⟨q4s, q4o, q4l, q4c⟩, ⟨q5s, q5o, q5l, q5c⟩, rfl, h21.out, HX21.out, HY21.out, HG21.out, HQ.out⟩
  case rest =>
  obtain ⟨K, ⟨q1s, q1o, q1l, q1c⟩, ⟨q2s, q2o, q2l, q2c⟩, ⟨q3s, q3o, q3l, q3c⟩, ⟨q4s, q4o, q4l, q4c⟩, ⟨q5s, q5o, q5l, q5c⟩, rfl, hh, hx, hy, hg, hq⟩ := hcut
  apply_assumption
  exact bigSays_G w wc HTB.out an bn ao bo ac bc a b xa xb X Y xs xo xl xc ys yo yl yc H K p1n p1o p1l p1c p2n p2o p2l p2c p3n p3o p3l p3c p4n p4o p4l p4c p5n p5o p5l p5c q1s q1o q1l q1c q2s q2o q2l q2c q3s q3o q3l q3c q4s q4o q4l q4c q5s q5o q5l q5c NA.out NB.out hh hx hy hg hq _ _ _ _ _ _ _ _ _ _ _ _ _ _ _ _ _ _ _ _ _ _ _ _ _ _ _ _ _ _ _ _ _ _ _ _ _ _ _ _ _ _ _ _ _ _ _ _ _ _ _ _ _ _ _ _ _ _ _ _ _ _ _ _ _ _ _ _ _ _ _ _ _ _ _ _ _ _ _ _ _ _ _ _ _ _ _ _ _ _ _ _ _ _ _ _ _ _ _ _ _ _ _ _ _ _ _ _ _ _ _ _ _ _ _ _ _ _ _ _ _ _ _ _ _ _ _ _ _ _ _ _ _ _ _ _ _ _ _ _ _ _ _ _ _ _ _ _ _ _ _ _ _ _ _ _ _ _ _ _ _ _ _ _ _ _ _ _ _ _ _ _ _ _ _ _ _ _ _ _ _ _ _ _ _ _ _ _ _ _ _ _ _ _ _ _ _ _ _ _ _ _ _ _ _ _ _ _ _ _ _ _ _ _ _ _ _ _ _ _ _ _ _ _ _ _ _ _ _ _ _ _ _ _ _ _ _ _ _ _ _ _ _ _ _ _ _ _ _ _ _ _ _ _ _ _ _ _ _ _ _ _ _ _ _ _ _ _ _ _ _ _ _ _ _ _ _

end Go.Proofs.YtaijeimgbbpgiaaDoor
