/- BigSays: the last part: what goes into both, the text, the division. -/
import Derived.Test.YtaijeimgbbpgiaaDoorBigSaysD
namespace Go.Proofs.YtaijeimgbbpgiaaDoor
open Go.RowKit Limbs Digs

set_option linter.unusedSimpArgs false in
set_option maxRecDepth 100000 in
set_option maxHeartbeats 6400000 in
theorem bigSays_E (w W : World) (ht : Tab w) (an bn : Bool) (ao bo : Option Addr) (ac bc : Nat) (a b : List Int) (xa xb : Int) (X Y : Nat) (xs : Int) (xo : Option Addr) (xl xc : Nat) (ys : Int) (yo : Option Addr) (yl yc : Nat) (G KB : Nat) (gn : Bool) (go : Option Addr) (gl gc : Nat) (ks : Int) (ko : Option Addr) (kl kc : Nat) (g : Int)
    (hxa : NumL w (.agg #[.bool an, .slice ao a.length ac]) xa 12) (hxb : NumL w (.agg #[.bool bn, .slice bo b.length bc]) xb 12)
    (h0 : BS w W (.bool an) (.slice ao a.length ac) (.bool bn) (.slice bo b.length bc)) (hx0 : RVar W X ⟨xs, xo, xl, xc⟩ xa 36) (hy0 : RVar W Y ⟨ys, yo, yl, yc⟩ xb 36) (hig : IVar W G ⟨gn, go, gl, gc⟩ g 12) (hrk : RVar W KB ⟨ks, ko, kl, kc⟩ g 37)
    (sl0 sl1 sl2 sl5 sl6 sl7 sl8 sl9 sl12 sl13 sl14 sl15 sl16 sl17 sl18 sl20 sl21 sl23 sl24 sl25 sl26 sl27 sl28 sl29 sl30 sl31 sl32 sl33 sl34 sl35 sl36 sl37 sl38 sl39 sl40 sl41 sl42 sl43 sl44 sl45 sl46 sl47 sl48 sl49 sl50 sl51 sl52 sl53 sl54 sl55 sl56 sl57 sl58 sl59 sl60 sl61 sl62 sl63 sl64 sl65 sl66 sl67 sl68 sl69 sl70 sl71 sl72 sl73 sl74 sl75 sl76 sl77 sl78 sl79 sl80 sl81 sl82 sl83 sl84 sl85 sl86 sl87 sl88 sl89 sl90 sl91 sl92 sl93 sl94 sl95 sl96 sl97 sl98 sl99 sl100 sl101 sl102 sl103 sl104 sl105 sl106 sl107 sl108 sl109 sl110 sl111 sl112 sl113 sl114 sl115 sl116 sl117 sl118 sl119 sl120 sl121 sl122 sl123 sl124 sl125 sl126 sl127 sl128 sl129 sl130 sl131 sl132 sl133 sl134 sl135 sl136 sl137 sl138 sl139 sl140 sl141 sl142 sl143 sl144 sl145 sl146 sl147 sl148 sl149 sl150 sl151 sl152 sl153 sl154 sl155 sl156 sl157 sl158 sl159 sl160 sl161 sl162 sl163 sl164 sl165 sl166 sl167 sl168 sl169 sl170 sl171 sl172 sl173 sl174 sl175 sl176 sl177 sl178 sl179 sl180 sl181 sl182 sl183 sl184 sl185 sl186 sl187 sl188 sl189 sl190 sl191 sl192 sl193 sl194 sl195 sl196 sl197 sl198 sl199 sl200 sl201 sl202 sl203 sl204 sl205 sl206 sl207 sl208 sl209 sl210 sl211 sl212 sl213 sl214 sl215 sl216 sl217 sl218 sl219 sl220 sl221 sl222 sl223 sl224 sl225 sl226 sl227 sl228 sl229 sl230 sl231 sl232 sl233 sl234 sl235 sl236 sl237 sl238 sl239 sl240 sl241 sl242 sl243 sl244 sl245 sl246 sl247 sl248 sl249 sl250 sl251 sl252 sl253 sl254 sl255 sl256 sl257 sl258 sl259 sl260 sl261 sl262 sl263 sl264 sl265 sl266 sl267 sl268 sl269 sl270 sl271 sl272 sl273 sl274 sl275 sl276 sl277 sl278 sl279 sl280 sl281 sl282 : Value) :
    (Code.tl (Code.tl (Code.tl (Code.tl (Code.tl (Code.tl (Code.tl (Code.tl (Code.tl (Code.tl (Code.tl (Code.tl (Code.tl (Code.tl (Code.tl (Code.tl (Code.tl (Code.tl (Code.tl ((Tryd.f4.body).getD .skip)))))))))))))))))))).wp Tryd.prog (bodyPost Tryd.prog Tryd.f4 (fun e w' => e = .returned (.bool true) ∧ Below w.heap.size w w')) ⟨#[sl0, sl1, sl2, .pointer (some ⟨w.heap.size, 0, none⟩), .pointer (some ⟨w.heap.size + 1, 0, none⟩), sl5, sl6, sl7, sl8, sl9, .pointer (some ⟨X, 0, none⟩), .pointer (some ⟨Y, 0, none⟩), sl12, sl13, sl14, sl15, sl16, sl17, sl18, .pointer (some ⟨G, 0, none⟩), sl20, sl21, .pointer (some ⟨KB, 0, none⟩), sl23, sl24, sl25, sl26, sl27, sl28, sl29, sl30, sl31, sl32, sl33, sl34, sl35, sl36, sl37, sl38, sl39, sl40, sl41, sl42, sl43, sl44, sl45, sl46, sl47, sl48, sl49, sl50, sl51, sl52, sl53, sl54, sl55, sl56, sl57, sl58, sl59, sl60, sl61, sl62, sl63, sl64, sl65, sl66, sl67, sl68, sl69, sl70, sl71, sl72, sl73, sl74, sl75, sl76, sl77, sl78, sl79, sl80, sl81, sl82, sl83, sl84, sl85, sl86, sl87, sl88, sl89, sl90, sl91, sl92, sl93, sl94, sl95, sl96, sl97, sl98, sl99, sl100, sl101, sl102, sl103, sl104, sl105, sl106, sl107, sl108, sl109, sl110, sl111, sl112, sl113, sl114, sl115, sl116, sl117, sl118, sl119, sl120, sl121, sl122, sl123, sl124, sl125, sl126, sl127, sl128, sl129, sl130, sl131, sl132, sl133, sl134, sl135, sl136, sl137, sl138, sl139, sl140, sl141, sl142, sl143, sl144, sl145, sl146, sl147, sl148, sl149, sl150, sl151, sl152, sl153, sl154, sl155, sl156, sl157, sl158, sl159, sl160, sl161, sl162, sl163, sl164, sl165, sl166, sl167, sl168, sl169, sl170, sl171, sl172, sl173, sl174, sl175, sl176, sl177, sl178, sl179, sl180, sl181, sl182, sl183, sl184, sl185, sl186, sl187, sl188, sl189, sl190, sl191, sl192, sl193, sl194, sl195, sl196, sl197, sl198, sl199, sl200, sl201, sl202, sl203, sl204, sl205, sl206, sl207, sl208, sl209, sl210, sl211, sl212, sl213, sl214, sl215, sl216, sl217, sl218, sl219, sl220, sl221, sl222, sl223, sl224, sl225, sl226, sl227, sl228, sl229, sl230, sl231, sl232, sl233, sl234, sl235, sl236, sl237, sl238, sl239, sl240, sl241, sl242, sl243, sl244, sl245, sl246, sl247, sl248, sl249, sl250, sl251, sl252, sl253, sl254, sl255, sl256, sl257, sl258, sl259, sl260, sl261, sl262, sl263, sl264, sl265, sl266, sl267, sl268, sl269, sl270, sl271, sl272, sl273, sl274, sl275, sl276, sl277, sl278, sl279, sl280, sl281, sl282], []⟩ W := by
  simp only [Code.tl, Tryd.f4, Option.getD_some]
  have NA := hide hxa; have NB := hide hxb; have HTB := hide ht
  clear hxa hxb ht
  have h19 := hide h0; have HX19 := hide hx0; have HY19 := hide hy0; have IG19 := hide hig; have RK := hide hrk
  clear h0 hx0 hy0 hig hrk
  generalize W = W19 at *
  obtain ⟨a0, a1, -, -⟩ := h19.out.a
  obtain ⟨b0, b1, -, -⟩ := h19.out.b
  go_wp2_with fail
  by_cases hxb : xb = 0
  · subst hxb
    refine (div_zero _ _ _ xa 12 12 (NA.out.below h19.out.below (Nat.le_refl _)) (NB.out.below h19.out.below (Nat.le_refl _))).mono ?_
    rintro e w20 ⟨rfl, hb⟩
    have hbA : Below w20.heap.size w20 ((w20.alloc (.cells #[.bool false, .slice none 0 0] 33)).alloc (.cells #[.bool false, .slice none 0 0] 33)) := ((Below.refl _ _).alloc (Nat.le_refl _) _).alloc (by simp) _
    have IQ20 := hide (show IVar ((w20.alloc (.cells #[.bool false, .slice none 0 0] 33)).alloc (.cells #[.bool false, .slice none 0 0] 33)) w20.heap.size ⟨false, none, 0, 0⟩ 0 12 from (ivar_new w20 ⟨false, none, 0, 0⟩ 0 12 33 (num_zero _)).later ((Below.refl _ _).alloc (Nat.le_refl _) _))
    have IR20 := hide (show IVar ((w20.alloc (.cells #[.bool false, .slice none 0 0] 33)).alloc (.cells #[.bool false, .slice none 0 0] 33)) (w20.heap.size + 1) ⟨false, none, 0, 0⟩ 0 12 from by have := ivar_new (w20.alloc (.cells #[.bool false, .slice none 0 0] 33)) ⟨false, none, 0, 0⟩ 0 12 33 (num_zero _); simpa using this)
    have h20 := hide ((h19.out.later hb).later hbA); have HX20 := hide ((HX19.out.later hb).later hbA); have HY20 := hide ((HY19.out.later hb).later hbA); have IG20 := hide ((IG19.out.later hb).later hbA); have RK20 := hide ((RK.out.later hb).later hbA)
    clear hb hbA a0 a1 b0 b1 h19 HX19 HY19 IG19 RK
    try dsimp only at IQ20 IR20
    obtain ⟨g0, g1, -, -⟩ := IG20.out.box
    obtain ⟨k0, k1, -, -⟩ := RK20.out.box.box
    obtain ⟨a0, a1, -, -⟩ := h20.out.a
    obtain ⟨b0, b1, -, -⟩ := h20.out.b
    obtain ⟨x0, x1, -, -⟩ := HX20.out.box.box
    try dsimp only at g0 g1 k0 k1 x0 x1
    go_wp2_with fail
    generalize (w20.alloc (.cells #[.bool false, .slice none 0 0] 33)).alloc (.cells #[.bool false, .slice none 0 0] 33) = W20 at *
    generalize w20.heap.size = Q at *
    refine wp_region_held_drew (S := (fun w' => w'.cell? ⟨G, 0, none⟩ = some (.bool gn) ∧ w'.cell? ⟨G, 1, none⟩ = some (.slice go gl gc) ∧ w'.cell? ⟨KB, 0, none⟩ = some (.int .i64 ks) ∧ w'.cell? ⟨KB, 1, none⟩ = some (.slice ko kl kc) ∧ w'.cell? ⟨w.heap.size, 0, none⟩ = some (.bool an) ∧ w'.cell? ⟨w.heap.size, 1, none⟩ = some (.slice ao a.length ac) ∧ w'.cell? ⟨w.heap.size + 1, 0, none⟩ = some (.bool bn) ∧ w'.cell? ⟨w.heap.size + 1, 1, none⟩ = some (.slice bo b.length bc) ∧ w'.cell? ⟨X, 0, none⟩ = some (.int .i64 xs) ∧ w'.cell? ⟨X, 1, none⟩ = some (.slice xo xl xc))) (by kernel_rfl) (by (try dsimp only); go_keep) (fun hHeld => ?_)
    refine held_run (v := ?_) 0 238 rfl rfl (by kernel_rfl) (by kernel_rfl) (by kernel_rfl) (fun _ _ _ h => h) (by rfl) ?_ (by assumption) ?_
    rotate_left
    · (intro w hSw; (try dsimp only at hSw); go_simp; with_reducible rfl)
    simp only [Act.put, List.setIfInBounds_toArray, List.set_cons_zero, List.set_cons_succ]
    refine held_run (v := ?_) 1 239 rfl rfl (by kernel_rfl) (by kernel_rfl) (by kernel_rfl) (fun _ _ _ h => h) (by rfl) ?_ (by assumption) ?_
    rotate_left
    · (intro w hSw; (try dsimp only at hSw); go_simp; with_reducible rfl)
    simp only [Act.put, List.setIfInBounds_toArray, List.set_cons_zero, List.set_cons_succ]
    refine wpAnyH_ready (rs := [2]) (by kernel_rfl) (by simp) (AllReadyH.cons (o := _) rfl (fun K hK => ?_) AllReadyH.nil)
    go_simp
    (refine (intR_any _ _ g 37 (by exact RK20.out.num)).mono ?_; rintro e w21 ⟨r, rfl, hr, hb⟩; have HR := hide hr; obtain ⟨⟨rn, ro, rl, rc⟩, rfl⟩ := hr.nm; clear hr; have h21 := hide (h20.out.drew.later hb); have HX21 := hide (HX20.out.drew.later hb); have HY21 := hide (HY20.out.drew.later hb); have IG21 := hide (IG20.out.drew.later hb); have RK21 := hide (RK20.out.drew.later hb); have IQ21 := hide (IQ20.out.drew.later hb); have IR21 := hide (IR20.out.drew.later hb); clear hb; obtain ⟨m210, m211, -, -⟩ := IG21.out.box; obtain ⟨m212, m213, -, -⟩ := RK21.out.box.box; obtain ⟨m214, m215, -, -⟩ := h21.out.a; obtain ⟨m216, m217, -, -⟩ := h21.out.b; obtain ⟨m218, m219, -, -⟩ := HX21.out.box.box; try dsimp only at m210 m211 m212 m213 m218 m219)
    go_wp2_with fail
    refine hK.out _ _ (by (try dsimp only); go_keep) (fun hHeld => ?_)
    clear hK K
    try simp only [Act.put, List.setIfInBounds_toArray, List.set_cons_zero, List.set_cons_succ]
    refine wpAnyH_ready (rs := [3]) (by kernel_rfl) (by simp) (AllReadyH.cons (o := _) rfl (fun K hK => ?_) AllReadyH.nil)
    go_simp
    (refine (sameInt_true _ _ _ g 12 37 (by exact IG21.out.num) HR.out).mono ?_; rintro e w22 ⟨rfl, hb⟩; have h22 := hide (h21.out.later hb); have HX22 := hide (HX21.out.later hb); have HY22 := hide (HY21.out.later hb); have IG22 := hide (IG21.out.later hb); have RK22 := hide (RK21.out.later hb); have IQ22 := hide (IQ21.out.later hb); have IR22 := hide (IR21.out.later hb); clear hb; obtain ⟨m220, m221, -, -⟩ := IG22.out.box; obtain ⟨m222, m223, -, -⟩ := RK22.out.box.box; obtain ⟨m224, m225, -, -⟩ := h22.out.a; obtain ⟨m226, m227, -, -⟩ := h22.out.b; obtain ⟨m228, m229, -, -⟩ := HX22.out.box.box; try dsimp only at m220 m221 m222 m223 m228 m229)
    go_wp2_with fail
    refine hK.out _ _ (by (try dsimp only); go_keep) (fun hHeld => ?_)
    clear hK K
    try simp only [Act.put, List.setIfInBounds_toArray, List.set_cons_zero, List.set_cons_succ]
    refine held_run (v := ?_) 4 242 rfl rfl (by kernel_rfl) (by kernel_rfl) (by kernel_rfl) (fun _ _ _ h => h) (by rfl) ?_ (by assumption) ?_
    rotate_left
    · (intro w hSw; (try dsimp only at hSw); go_simp; with_reducible rfl)
    simp only [Act.put, List.setIfInBounds_toArray, List.set_cons_zero, List.set_cons_succ]
    refine held_run (v := ?_) 5 243 rfl rfl (by kernel_rfl) (by kernel_rfl) (by kernel_rfl) (fun _ _ _ h => h) (by rfl) ?_ (by assumption) ?_
    rotate_left
    · (intro w hSw; (try dsimp only at hSw); go_simp; with_reducible rfl)
    simp only [Act.put, List.setIfInBounds_toArray, List.set_cons_zero, List.set_cons_succ]
    refine held_run (v := ?_) 6 244 rfl rfl (by kernel_rfl) (by kernel_rfl) (by kernel_rfl) (fun _ _ _ h => h) (by rfl) ?_ (by assumption) ?_
    rotate_left
    · (intro w hSw; (try dsimp only at hSw); go_simp; with_reducible rfl)
    simp only [Act.put, List.setIfInBounds_toArray, List.set_cons_zero, List.set_cons_succ]
    refine held_run (v := ?_) 8 246 rfl rfl (by kernel_rfl) (by kernel_rfl) (by kernel_rfl) (fun _ _ _ h => h) (by rfl) ?_ (by assumption) ?_
    rotate_left
    · (intro w hSw; (try dsimp only at hSw); go_simp; with_reducible rfl)
    simp only [Act.put, List.setIfInBounds_toArray, List.set_cons_zero, List.set_cons_succ]
    refine wpAnyH_ready (rs := [7]) (by kernel_rfl) (by simp) (AllReadyH.cons (o := _) rfl (fun K hK => ?_) AllReadyH.nil)
    go_simp
    (refine (text_all _ _ xa 12 (HTB.out.below h22.out.below) (NA.out.below h22.out.below (Nat.le_refl _)) (by decide)).mono ?_; rintro e w23 ⟨rfl, hb⟩; have h23 := hide (h22.out.later hb); have HX23 := hide (HX22.out.later hb); have HY23 := hide (HY22.out.later hb); have IG23 := hide (IG22.out.later hb); have RK23 := hide (RK22.out.later hb); have IQ23 := hide (IQ22.out.later hb); have IR23 := hide (IR22.out.later hb); clear hb; obtain ⟨m230, m231, -, -⟩ := IG23.out.box; obtain ⟨m232, m233, -, -⟩ := RK23.out.box.box; obtain ⟨m234, m235, -, -⟩ := h23.out.a; obtain ⟨m236, m237, -, -⟩ := h23.out.b; obtain ⟨m238, m239, -, -⟩ := HX23.out.box.box; try dsimp only at m230 m231 m232 m233 m238 m239)
    go_wp2_with fail
    refine hK.out _ _ (by (try dsimp only); go_keep) (fun hHeld => ?_)
    clear hK K
    try simp only [Act.put, List.setIfInBounds_toArray, List.set_cons_zero, List.set_cons_succ]
    refine wpAnyH_ready (rs := [9]) (by kernel_rfl) (by simp) (AllReadyH.cons (o := _) rfl (fun K hK => ?_) AllReadyH.nil)
    go_simp
    (refine (decimal_of _ _ xa 36 (by exact HX23.out.num) (by decide)).mono ?_; rintro e w24 ⟨rfl, hb⟩; have h24 := hide (h23.out.later hb); have HX24 := hide (HX23.out.later hb); have HY24 := hide (HY23.out.later hb); have IG24 := hide (IG23.out.later hb); have RK24 := hide (RK23.out.later hb); have IQ24 := hide (IQ23.out.later hb); have IR24 := hide (IR23.out.later hb); clear hb; obtain ⟨m240, m241, -, -⟩ := IG24.out.box; obtain ⟨m242, m243, -, -⟩ := RK24.out.box.box; obtain ⟨m244, m245, -, -⟩ := h24.out.a; obtain ⟨m246, m247, -, -⟩ := h24.out.b; obtain ⟨m248, m249, -, -⟩ := HX24.out.box.box; try dsimp only at m240 m241 m242 m243 m248 m249)
    go_wp2_with fail
    refine hK.out _ _ (by (try dsimp only); go_keep) (fun hHeld => ?_)
    clear hK K
    try simp only [Act.put, List.setIfInBounds_toArray, List.set_cons_zero, List.set_cons_succ]
    refine held_run (v := ?_) 10 248 rfl rfl (by kernel_rfl) (by kernel_rfl) (by kernel_rfl) (fun _ _ _ h => h) (by rfl) ?_ (by assumption) ?_
    rotate_left
    · (intro w hSw; (try dsimp only at hSw); go_simp; with_reducible rfl)
    simp only [Act.put, List.setIfInBounds_toArray, List.set_cons_zero, List.set_cons_succ]
    refine held_run (v := ?_) 11 249 rfl rfl (by kernel_rfl) (by kernel_rfl) (by kernel_rfl) (fun _ _ _ h => h) (by rfl) ?_ (by assumption) ?_
    rotate_left
    · (intro w hSw; (try dsimp only at hSw); go_simp; with_reducible rfl)
    simp only [Act.put, List.setIfInBounds_toArray, List.set_cons_zero, List.set_cons_succ]
    refine wpAnyH_done (by kernel_rfl) ?_ _
    clear HR hHeld h20 h21 h22 h23 HX20 HX21 HX22 HX23 HY20 HY21 HY22 HY23 IG20 IG21 IG22 IG23 RK20 RK21 RK22 RK23 IQ20 IQ21 IQ22 IQ23 IR20 IR21 IR22 IR23 m210 m211 m212 m213 m214 m215 m216 m217 m218 m219 m220 m221 m222 m223 m224 m225 m226 m227 m228 m229 m230 m231 m232 m233 m234 m235 m236 m237 m238 m239 m240 m241 m242 m243 m244 m245 m246 m247 m248 m249
    clear g0 g1 k0 k1 a0 a1 b0 b1 x0 x1
    have hyb : (ys == 0) = true := by have := HY24.out.num.sign; dsimp only at this; rw [beq_iff_eq]; omega
    obtain ⟨y0, y1, -, -⟩ := HY24.out.box.box
    try dsimp only at y0 y1
    go_wp2_with fail
    refine (same_errno 4 4 _).mono ?_
    rintro e w25 ⟨rfl, rfl⟩
    obtain ⟨q0, q1, -, -⟩ := IQ24.out.box
    try dsimp only at q0 q1
    go_wp2_with fail
    refine (zero_any _ _ 0 12 IQ24.out.num).mono ?_
    rintro e w26 ⟨rfl, hb⟩
    rw [decide_eq_true rfl]
    have IR26 := hide (IR24.out.later hb); have h26 := hide (h24.out.later hb)
    clear hb q0 q1
    obtain ⟨q0, q1, -, -⟩ := IR26.out.box
    try dsimp only at q0 q1
    go_wp2_with fail
    refine (zero_any _ _ 0 12 IR26.out.num).mono ?_
    rintro e w27 ⟨rfl, hb⟩
    rw [decide_eq_true rfl]
    have HF := hide (h26.out.later hb).below
    clear hb
    go_wp2
    go_ret
    exact ⟨rfl, HF.out⟩
  · refine (div_any _ _ _ xa xb 12 12 (NA.out.below h19.out.below (Nat.le_refl _)) (NB.out.below h19.out.below (Nat.le_refl _)) hxb (by decide)).mono ?_
    rintro e w20 ⟨vq, vr, q, r, rfl, hq, hr, hqe, hle, hb⟩
    obtain ⟨⟨en, eo, el, ec⟩, rfl⟩ := hq.nm
    obtain ⟨⟨fn, fo, fl, fc⟩, rfl⟩ := hr.nm
    have hbA : Below w20.heap.size w20 ((w20.alloc (.cells #[.bool en, .slice eo el ec] 33)).alloc (.cells #[.bool fn, .slice fo fl fc] 33)) := ((Below.refl _ _).alloc (Nat.le_refl _) _).alloc (by simp) _
    have IQ20 := hide (show IVar ((w20.alloc (.cells #[.bool en, .slice eo el ec] 33)).alloc (.cells #[.bool fn, .slice fo fl fc] 33)) w20.heap.size ⟨en, eo, el, ec⟩ q 13 from (ivar_new w20 ⟨en, eo, el, ec⟩ q 13 33 hq).later ((Below.refl _ _).alloc (Nat.le_refl _) _))
    have IR20 := hide (show IVar ((w20.alloc (.cells #[.bool en, .slice eo el ec] 33)).alloc (.cells #[.bool fn, .slice fo fl fc] 33)) (w20.heap.size + 1) ⟨fn, fo, fl, fc⟩ r 12 from by have := ivar_new (w20.alloc (.cells #[.bool en, .slice eo el ec] 33)) ⟨fn, fo, fl, fc⟩ r 12 33 (hr.below ((Below.refl _ _).alloc (Nat.le_refl _) _ : Below w20.heap.size _ _) (Nat.le_refl _)); simpa using this)
    have h20 := hide ((h19.out.later hb).later hbA); have HX20 := hide ((HX19.out.later hb).later hbA); have HY20 := hide ((HY19.out.later hb).later hbA); have IG20 := hide ((IG19.out.later hb).later hbA); have RK20 := hide ((RK.out.later hb).later hbA)
    have HLE := hide hle; have HQE := hide hqe
    clear hb hbA a0 a1 b0 b1 h19 HX19 HY19 IG19 RK hq hr hle hqe
    try dsimp only at IQ20 IR20
    obtain ⟨g0, g1, -, -⟩ := IG20.out.box
    obtain ⟨k0, k1, -, -⟩ := RK20.out.box.box
    obtain ⟨a0, a1, -, -⟩ := h20.out.a
    obtain ⟨b0, b1, -, -⟩ := h20.out.b
    obtain ⟨x0, x1, -, -⟩ := HX20.out.box.box
    try dsimp only at g0 g1 k0 k1 x0 x1
    go_wp2_with fail
    generalize (w20.alloc (.cells #[.bool en, .slice eo el ec] 33)).alloc (.cells #[.bool fn, .slice fo fl fc] 33) = W20 at *
    generalize w20.heap.size = Q at *
    refine wp_region_held_drew (S := (fun w' => w'.cell? ⟨G, 0, none⟩ = some (.bool gn) ∧ w'.cell? ⟨G, 1, none⟩ = some (.slice go gl gc) ∧ w'.cell? ⟨KB, 0, none⟩ = some (.int .i64 ks) ∧ w'.cell? ⟨KB, 1, none⟩ = some (.slice ko kl kc) ∧ w'.cell? ⟨w.heap.size, 0, none⟩ = some (.bool an) ∧ w'.cell? ⟨w.heap.size, 1, none⟩ = some (.slice ao a.length ac) ∧ w'.cell? ⟨w.heap.size + 1, 0, none⟩ = some (.bool bn) ∧ w'.cell? ⟨w.heap.size + 1, 1, none⟩ = some (.slice bo b.length bc) ∧ w'.cell? ⟨X, 0, none⟩ = some (.int .i64 xs) ∧ w'.cell? ⟨X, 1, none⟩ = some (.slice xo xl xc))) (by kernel_rfl) (by (try dsimp only); go_keep) (fun hHeld => ?_)
    refine held_run (v := ?_) 0 238 rfl rfl (by kernel_rfl) (by kernel_rfl) (by kernel_rfl) (fun _ _ _ h => h) (by rfl) ?_ (by assumption) ?_
    rotate_left
    · (intro w hSw; (try dsimp only at hSw); go_simp; with_reducible rfl)
    simp only [Act.put, List.setIfInBounds_toArray, List.set_cons_zero, List.set_cons_succ]
    refine held_run (v := ?_) 1 239 rfl rfl (by kernel_rfl) (by kernel_rfl) (by kernel_rfl) (fun _ _ _ h => h) (by rfl) ?_ (by assumption) ?_
    rotate_left
    · (intro w hSw; (try dsimp only at hSw); go_simp; with_reducible rfl)
    simp only [Act.put, List.setIfInBounds_toArray, List.set_cons_zero, List.set_cons_succ]
    refine wpAnyH_ready (rs := [2]) (by kernel_rfl) (by simp) (AllReadyH.cons (o := _) rfl (fun K hK => ?_) AllReadyH.nil)
    go_simp
    (refine (intR_any _ _ g 37 (by exact RK20.out.num)).mono ?_; rintro e w21 ⟨r, rfl, hr, hb⟩; have HR := hide hr; obtain ⟨⟨rn, ro, rl, rc⟩, rfl⟩ := hr.nm; clear hr; have h21 := hide (h20.out.drew.later hb); have HX21 := hide (HX20.out.drew.later hb); have HY21 := hide (HY20.out.drew.later hb); have IG21 := hide (IG20.out.drew.later hb); have RK21 := hide (RK20.out.drew.later hb); have IQ21 := hide (IQ20.out.drew.later hb); have IR21 := hide (IR20.out.drew.later hb); clear hb; obtain ⟨m210, m211, -, -⟩ := IG21.out.box; obtain ⟨m212, m213, -, -⟩ := RK21.out.box.box; obtain ⟨m214, m215, -, -⟩ := h21.out.a; obtain ⟨m216, m217, -, -⟩ := h21.out.b; obtain ⟨m218, m219, -, -⟩ := HX21.out.box.box; try dsimp only at m210 m211 m212 m213 m218 m219)
    go_wp2_with fail
    refine hK.out _ _ (by (try dsimp only); go_keep) (fun hHeld => ?_)
    clear hK K
    try simp only [Act.put, List.setIfInBounds_toArray, List.set_cons_zero, List.set_cons_succ]
    refine wpAnyH_ready (rs := [3]) (by kernel_rfl) (by simp) (AllReadyH.cons (o := _) rfl (fun K hK => ?_) AllReadyH.nil)
    go_simp
    (refine (sameInt_true _ _ _ g 12 37 (by exact IG21.out.num) HR.out).mono ?_; rintro e w22 ⟨rfl, hb⟩; have h22 := hide (h21.out.later hb); have HX22 := hide (HX21.out.later hb); have HY22 := hide (HY21.out.later hb); have IG22 := hide (IG21.out.later hb); have RK22 := hide (RK21.out.later hb); have IQ22 := hide (IQ21.out.later hb); have IR22 := hide (IR21.out.later hb); clear hb; obtain ⟨m220, m221, -, -⟩ := IG22.out.box; obtain ⟨m222, m223, -, -⟩ := RK22.out.box.box; obtain ⟨m224, m225, -, -⟩ := h22.out.a; obtain ⟨m226, m227, -, -⟩ := h22.out.b; obtain ⟨m228, m229, -, -⟩ := HX22.out.box.box; try dsimp only at m220 m221 m222 m223 m228 m229)
    go_wp2_with fail
    refine hK.out _ _ (by (try dsimp only); go_keep) (fun hHeld => ?_)
    clear hK K
    try simp only [Act.put, List.setIfInBounds_toArray, List.set_cons_zero, List.set_cons_succ]
    refine held_run (v := ?_) 4 242 rfl rfl (by kernel_rfl) (by kernel_rfl) (by kernel_rfl) (fun _ _ _ h => h) (by rfl) ?_ (by assumption) ?_
    rotate_left
    · (intro w hSw; (try dsimp only at hSw); go_simp; with_reducible rfl)
    simp only [Act.put, List.setIfInBounds_toArray, List.set_cons_zero, List.set_cons_succ]
    refine held_run (v := ?_) 5 243 rfl rfl (by kernel_rfl) (by kernel_rfl) (by kernel_rfl) (fun _ _ _ h => h) (by rfl) ?_ (by assumption) ?_
    rotate_left
    · (intro w hSw; (try dsimp only at hSw); go_simp; with_reducible rfl)
    simp only [Act.put, List.setIfInBounds_toArray, List.set_cons_zero, List.set_cons_succ]
    refine held_run (v := ?_) 6 244 rfl rfl (by kernel_rfl) (by kernel_rfl) (by kernel_rfl) (fun _ _ _ h => h) (by rfl) ?_ (by assumption) ?_
    rotate_left
    · (intro w hSw; (try dsimp only at hSw); go_simp; with_reducible rfl)
    simp only [Act.put, List.setIfInBounds_toArray, List.set_cons_zero, List.set_cons_succ]
    refine held_run (v := ?_) 8 246 rfl rfl (by kernel_rfl) (by kernel_rfl) (by kernel_rfl) (fun _ _ _ h => h) (by rfl) ?_ (by assumption) ?_
    rotate_left
    · (intro w hSw; (try dsimp only at hSw); go_simp; with_reducible rfl)
    simp only [Act.put, List.setIfInBounds_toArray, List.set_cons_zero, List.set_cons_succ]
    refine wpAnyH_ready (rs := [7]) (by kernel_rfl) (by simp) (AllReadyH.cons (o := _) rfl (fun K hK => ?_) AllReadyH.nil)
    go_simp
    (refine (text_all _ _ xa 12 (HTB.out.below h22.out.below) (NA.out.below h22.out.below (Nat.le_refl _)) (by decide)).mono ?_; rintro e w23 ⟨rfl, hb⟩; have h23 := hide (h22.out.later hb); have HX23 := hide (HX22.out.later hb); have HY23 := hide (HY22.out.later hb); have IG23 := hide (IG22.out.later hb); have RK23 := hide (RK22.out.later hb); have IQ23 := hide (IQ22.out.later hb); have IR23 := hide (IR22.out.later hb); clear hb; obtain ⟨m230, m231, -, -⟩ := IG23.out.box; obtain ⟨m232, m233, -, -⟩ := RK23.out.box.box; obtain ⟨m234, m235, -, -⟩ := h23.out.a; obtain ⟨m236, m237, -, -⟩ := h23.out.b; obtain ⟨m238, m239, -, -⟩ := HX23.out.box.box; try dsimp only at m230 m231 m232 m233 m238 m239)
    go_wp2_with fail
    refine hK.out _ _ (by (try dsimp only); go_keep) (fun hHeld => ?_)
    clear hK K
    try simp only [Act.put, List.setIfInBounds_toArray, List.set_cons_zero, List.set_cons_succ]
    refine wpAnyH_ready (rs := [9]) (by kernel_rfl) (by simp) (AllReadyH.cons (o := _) rfl (fun K hK => ?_) AllReadyH.nil)
    go_simp
    (refine (decimal_of _ _ xa 36 (by exact HX23.out.num) (by decide)).mono ?_; rintro e w24 ⟨rfl, hb⟩; have h24 := hide (h23.out.later hb); have HX24 := hide (HX23.out.later hb); have HY24 := hide (HY23.out.later hb); have IG24 := hide (IG23.out.later hb); have RK24 := hide (RK23.out.later hb); have IQ24 := hide (IQ23.out.later hb); have IR24 := hide (IR23.out.later hb); clear hb; obtain ⟨m240, m241, -, -⟩ := IG24.out.box; obtain ⟨m242, m243, -, -⟩ := RK24.out.box.box; obtain ⟨m244, m245, -, -⟩ := h24.out.a; obtain ⟨m246, m247, -, -⟩ := h24.out.b; obtain ⟨m248, m249, -, -⟩ := HX24.out.box.box; try dsimp only at m240 m241 m242 m243 m248 m249)
    go_wp2_with fail
    refine hK.out _ _ (by (try dsimp only); go_keep) (fun hHeld => ?_)
    clear hK K
    try simp only [Act.put, List.setIfInBounds_toArray, List.set_cons_zero, List.set_cons_succ]
    refine held_run (v := ?_) 10 248 rfl rfl (by kernel_rfl) (by kernel_rfl) (by kernel_rfl) (fun _ _ _ h => h) (by rfl) ?_ (by assumption) ?_
    rotate_left
    · (intro w hSw; (try dsimp only at hSw); go_simp; with_reducible rfl)
    simp only [Act.put, List.setIfInBounds_toArray, List.set_cons_zero, List.set_cons_succ]
    refine held_run (v := ?_) 11 249 rfl rfl (by kernel_rfl) (by kernel_rfl) (by kernel_rfl) (fun _ _ _ h => h) (by rfl) ?_ (by assumption) ?_
    rotate_left
    · (intro w hSw; (try dsimp only at hSw); go_simp; with_reducible rfl)
    simp only [Act.put, List.setIfInBounds_toArray, List.set_cons_zero, List.set_cons_succ]
    refine wpAnyH_done (by kernel_rfl) ?_ _
    clear HR hHeld h20 h21 h22 h23 HX20 HX21 HX22 HX23 HY20 HY21 HY22 HY23 IG20 IG21 IG22 IG23 RK20 RK21 RK22 RK23 IQ20 IQ21 IQ22 IQ23 IR20 IR21 IR22 IR23 m210 m211 m212 m213 m214 m215 m216 m217 m218 m219 m220 m221 m222 m223 m224 m225 m226 m227 m228 m229 m230 m231 m232 m233 m234 m235 m236 m237 m238 m239 m240 m241 m242 m243 m244 m245 m246 m247 m248 m249
    clear g0 g1 k0 k1 a0 a1 b0 b1 x0 x1
    have hyb : (ys == 0) = false := by have := HY24.out.num.sign; dsimp only at this; rw [beq_eq_false_iff_ne]; omega
    obtain ⟨y0, y1, -, -⟩ := HY24.out.box.box
    obtain ⟨x0, x1, -, -⟩ := HX24.out.box.box
    try dsimp only at y0 y1 x0 x1
    go_wp2_with fail
    refine (over_any _ _ _ xa xb 36 36 HX24.out.num HY24.out.num hxb (by decide) (by decide)).mono ?_
    rintro e w25 ⟨vo, vp, u, v, rfl, hu, hv, hue, hve, hb⟩
    obtain ⟨hqu, hrv⟩ := quo_one hxb HQE.out HLE.out hue hve
    subst hqu hrv
    obtain ⟨⟨us, uo, ul, uc⟩, rfl⟩ := hu.rm
    obtain ⟨⟨vs, vo, vl, vc⟩, rfl⟩ := hv.rm
    have hbA : Below w25.heap.size w25 ((w25.alloc (.cells #[.int .i64 us, .slice uo ul uc] 42)).alloc (.cells #[.int .i64 vs, .slice vo vl vc] 42)) := ((Below.refl _ _).alloc (Nat.le_refl _) _).alloc (by simp) _
    have RU25 := hide (show RVar ((w25.alloc (.cells #[.int .i64 us, .slice uo ul uc] 42)).alloc (.cells #[.int .i64 vs, .slice vo vl vc] 42)) w25.heap.size ⟨us, uo, ul, uc⟩ q 42 from (rvar_new w25 ⟨us, uo, ul, uc⟩ q 42 hu).later ((Below.refl _ _).alloc (Nat.le_refl _) _))
    have RV25 := hide (show RVar ((w25.alloc (.cells #[.int .i64 us, .slice uo ul uc] 42)).alloc (.cells #[.int .i64 vs, .slice vo vl vc] 42)) (w25.heap.size + 1) ⟨vs, vo, vl, vc⟩ r 36 from by have := rvar_new (w25.alloc (.cells #[.int .i64 us, .slice uo ul uc] 42)) ⟨vs, vo, vl, vc⟩ r 36 (hv.below ((Below.refl _ _).alloc (Nat.le_refl _) _ : Below w25.heap.size _ _) (Nat.le_refl _)); simpa using this)
    have h25 := hide ((h24.out.later hb).later hbA); have IQ25 := hide ((IQ24.out.later hb).later hbA); have IR25 := hide ((IR24.out.later hb).later hbA)
    clear hb hbA hu hv hue hve HLE HQE h24 HX24 HY24 IG24 RK24 IQ24 IR24 x0 x1 y0 y1
    try dsimp only at RU25 RV25
    obtain ⟨q0, q1, -, -⟩ := IQ25.out.box
    obtain ⟨q2, q3, -, -⟩ := IR25.out.box
    obtain ⟨u0, u1, -, -⟩ := RU25.out.box.box
    obtain ⟨u2, u3, -, -⟩ := RV25.out.box.box
    try dsimp only at q0 q1 q2 q3 u0 u1 u2 u3
    go_wp2_with fail
    generalize (w25.alloc (.cells #[.int .i64 us, .slice uo ul uc] 42)).alloc (.cells #[.int .i64 vs, .slice vo vl vc] 42) = W25 at *
    generalize w25.heap.size = U at *
    refine wp_region_held_drew (S := (fun w' => w'.cell? ⟨Q, 0, none⟩ = some (.bool en) ∧ w'.cell? ⟨Q, 1, none⟩ = some (.slice eo el ec) ∧ w'.cell? ⟨Q + 1, 0, none⟩ = some (.bool fn) ∧ w'.cell? ⟨Q + 1, 1, none⟩ = some (.slice fo fl fc) ∧ w'.cell? ⟨U, 0, none⟩ = some (.int .i64 us) ∧ w'.cell? ⟨U, 1, none⟩ = some (.slice uo ul uc) ∧ w'.cell? ⟨U + 1, 0, none⟩ = some (.int .i64 vs) ∧ w'.cell? ⟨U + 1, 1, none⟩ = some (.slice vo vl vc))) (by kernel_rfl) (by (try dsimp only); go_keep) (fun hHeld => ?_)
    refine held_run (v := ?_) 0 269 rfl rfl (by kernel_rfl) (by kernel_rfl) (by kernel_rfl) (fun _ _ _ h => h) (by rfl) ?_ (by assumption) ?_
    rotate_left
    · (intro w hSw; (try dsimp only at hSw); go_simp; with_reducible rfl)
    simp only [Act.put, List.setIfInBounds_toArray, List.set_cons_zero, List.set_cons_succ]
    refine held_run (v := ?_) 1 270 rfl rfl (by kernel_rfl) (by kernel_rfl) (by kernel_rfl) (fun _ _ _ h => h) (by rfl) ?_ (by assumption) ?_
    rotate_left
    · (intro w hSw; (try dsimp only at hSw); go_simp; with_reducible rfl)
    simp only [Act.put, List.setIfInBounds_toArray, List.set_cons_zero, List.set_cons_succ]
    refine held_run (v := ?_) 2 271 rfl rfl (by kernel_rfl) (by kernel_rfl) (by kernel_rfl) (fun _ _ _ h => h) (by rfl) ?_ (by assumption) ?_
    rotate_left
    · (intro w hSw; (try dsimp only at hSw); go_simp; with_reducible rfl)
    simp only [Act.put, List.setIfInBounds_toArray, List.set_cons_zero, List.set_cons_succ]
    refine held_run (v := ?_) 3 272 rfl rfl (by kernel_rfl) (by kernel_rfl) (by kernel_rfl) (fun _ _ _ h => h) (by rfl) ?_ (by assumption) ?_
    rotate_left
    · (intro w hSw; (try dsimp only at hSw); go_simp; with_reducible rfl)
    simp only [Act.put, List.setIfInBounds_toArray, List.set_cons_zero, List.set_cons_succ]
    refine held_run (v := ?_) 4 273 rfl rfl (by kernel_rfl) (by kernel_rfl) (by kernel_rfl) (fun _ _ _ h => h) (by rfl) ?_ (by assumption) ?_
    rotate_left
    · (intro w hSw; (try dsimp only at hSw); go_simp; with_reducible rfl)
    simp only [Act.put, List.setIfInBounds_toArray, List.set_cons_zero, List.set_cons_succ]
    refine wpAnyH_ready (rs := [5]) (by kernel_rfl) (by simp) (AllReadyH.cons (o := _) rfl (fun K hK => ?_) AllReadyH.nil)
    go_simp
    (refine (intR_any _ _ q 42 (by exact RU25.out.num)).mono ?_; rintro e w26 ⟨r', rfl, hr, hb⟩; have HR := hide hr; obtain ⟨⟨rn, ro, rl, rc⟩, rfl⟩ := hr.nm; clear hr; have h26 := hide (h25.out.drew.later hb); have IQ26 := hide (IQ25.out.drew.later hb); have IR26 := hide (IR25.out.drew.later hb); have RU26 := hide (RU25.out.drew.later hb); have RV26 := hide (RV25.out.drew.later hb); clear hb; obtain ⟨m260, m261, -, -⟩ := IQ26.out.box; obtain ⟨m262, m263, -, -⟩ := IR26.out.box; obtain ⟨m264, m265, -, -⟩ := RU26.out.box.box; obtain ⟨m266, m267, -, -⟩ := RV26.out.box.box; try dsimp only at m260 m261 m262 m263 m264 m265 m266 m267)
    go_wp2_with fail
    refine hK.out _ _ (by (try dsimp only); go_keep) (fun hHeld => ?_)
    clear hK K
    try simp only [Act.put, List.setIfInBounds_toArray, List.set_cons_zero, List.set_cons_succ]
    refine wpAnyH_ready (rs := [6]) (by kernel_rfl) (by simp) (AllReadyH.cons (o := _) rfl (fun K hK => ?_) AllReadyH.nil)
    go_simp
    (refine (sameInt_true _ _ _ q 13 42 (by exact IQ26.out.num) HR.out).mono ?_; rintro e w27 ⟨rfl, hb⟩; have h27 := hide (h26.out.later hb); have IQ27 := hide (IQ26.out.later hb); have IR27 := hide (IR26.out.later hb); have RU27 := hide (RU26.out.later hb); have RV27 := hide (RV26.out.later hb); clear hb; obtain ⟨m270, m271, -, -⟩ := IQ27.out.box; obtain ⟨m272, m273, -, -⟩ := IR27.out.box; obtain ⟨m274, m275, -, -⟩ := RU27.out.box.box; obtain ⟨m276, m277, -, -⟩ := RV27.out.box.box; try dsimp only at m270 m271 m272 m273 m274 m275 m276 m277)
    go_wp2_with fail
    refine hK.out _ _ (by (try dsimp only); go_keep) (fun hHeld => ?_)
    clear hK K
    try simp only [Act.put, List.setIfInBounds_toArray, List.set_cons_zero, List.set_cons_succ]
    refine held_run (v := ?_) 7 276 rfl rfl (by kernel_rfl) (by kernel_rfl) (by kernel_rfl) (fun _ _ _ h => h) (by rfl) ?_ (by assumption) ?_
    rotate_left
    · (intro w hSw; (try dsimp only at hSw); go_simp; with_reducible rfl)
    simp only [Act.put, List.setIfInBounds_toArray, List.set_cons_zero, List.set_cons_succ]
    refine held_run (v := ?_) 8 277 rfl rfl (by kernel_rfl) (by kernel_rfl) (by kernel_rfl) (fun _ _ _ h => h) (by rfl) ?_ (by assumption) ?_
    rotate_left
    · (intro w hSw; (try dsimp only at hSw); go_simp; with_reducible rfl)
    simp only [Act.put, List.setIfInBounds_toArray, List.set_cons_zero, List.set_cons_succ]
    refine held_run (v := ?_) 9 278 rfl rfl (by kernel_rfl) (by kernel_rfl) (by kernel_rfl) (fun _ _ _ h => h) (by rfl) ?_ (by assumption) ?_
    rotate_left
    · (intro w hSw; (try dsimp only at hSw); go_simp; with_reducible rfl)
    simp only [Act.put, List.setIfInBounds_toArray, List.set_cons_zero, List.set_cons_succ]
    refine held_run (v := ?_) 10 279 rfl rfl (by kernel_rfl) (by kernel_rfl) (by kernel_rfl) (fun _ _ _ h => h) (by rfl) ?_ (by assumption) ?_
    rotate_left
    · (intro w hSw; (try dsimp only at hSw); go_simp; with_reducible rfl)
    simp only [Act.put, List.setIfInBounds_toArray, List.set_cons_zero, List.set_cons_succ]
    refine wpAnyH_ready (rs := [11]) (by kernel_rfl) (by simp) (AllReadyH.cons (o := _) rfl (fun K hK => ?_) AllReadyH.nil)
    go_simp
    (refine (intR_any _ _ r 36 (by exact RV27.out.num)).mono ?_; rintro e w28 ⟨r', rfl, hr, hb⟩; have HR' := hide hr; obtain ⟨⟨tn, to, tl, tc⟩, rfl⟩ := hr.nm; clear hr; have h28 := hide (h27.out.later hb); have IQ28 := hide (IQ27.out.later hb); have IR28 := hide (IR27.out.later hb); have RU28 := hide (RU27.out.later hb); have RV28 := hide (RV27.out.later hb); clear hb; obtain ⟨m280, m281, -, -⟩ := IQ28.out.box; obtain ⟨m282, m283, -, -⟩ := IR28.out.box; obtain ⟨m284, m285, -, -⟩ := RU28.out.box.box; obtain ⟨m286, m287, -, -⟩ := RV28.out.box.box; try dsimp only at m280 m281 m282 m283 m284 m285 m286 m287)
    go_wp2_with fail
    refine hK.out _ _ (by (try dsimp only); go_keep) (fun hHeld => ?_)
    clear hK K
    try simp only [Act.put, List.setIfInBounds_toArray, List.set_cons_zero, List.set_cons_succ]
    refine wpAnyH_ready (rs := [12]) (by kernel_rfl) (by simp) (AllReadyH.cons (o := _) rfl (fun K hK => ?_) AllReadyH.nil)
    go_simp
    (refine (sameInt_true _ _ _ r 12 36 (by exact IR28.out.num) HR'.out).mono ?_; rintro e w29 ⟨rfl, hb⟩; have h29 := hide (h28.out.later hb); have IQ29 := hide (IQ28.out.later hb); have IR29 := hide (IR28.out.later hb); have RU29 := hide (RU28.out.later hb); have RV29 := hide (RV28.out.later hb); clear hb; obtain ⟨m290, m291, -, -⟩ := IQ29.out.box; obtain ⟨m292, m293, -, -⟩ := IR29.out.box; obtain ⟨m294, m295, -, -⟩ := RU29.out.box.box; obtain ⟨m296, m297, -, -⟩ := RV29.out.box.box; try dsimp only at m290 m291 m292 m293 m294 m295 m296 m297)
    go_wp2_with fail
    refine hK.out _ _ (by (try dsimp only); go_keep) (fun hHeld => ?_)
    clear hK K
    try simp only [Act.put, List.setIfInBounds_toArray, List.set_cons_zero, List.set_cons_succ]
    refine held_run (v := ?_) 13 282 rfl rfl (by kernel_rfl) (by kernel_rfl) (by kernel_rfl) (fun _ _ _ h => h) (by rfl) ?_ (by assumption) ?_
    rotate_left
    · (intro w hSw; (try dsimp only at hSw); go_simp; with_reducible rfl)
    simp only [Act.put, List.setIfInBounds_toArray, List.set_cons_zero, List.set_cons_succ]
    refine held_run (v := ?_) 14 6 rfl rfl (by kernel_rfl) (by kernel_rfl) (by kernel_rfl) (fun _ _ _ h => h) (by rfl) ?_ (by assumption) ?_
    rotate_left
    · (intro w hSw; (try dsimp only at hSw); go_simp; with_reducible rfl)
    simp only [Act.put, List.setIfInBounds_toArray, List.set_cons_zero, List.set_cons_succ]
    refine wpAnyH_done (by kernel_rfl) ?_ _
    have HF := hide h29.out.below
    go_wp2
    go_ret
    exact ⟨rfl, HF.out⟩

end Go.Proofs.YtaijeimgbbpgiaaDoor
