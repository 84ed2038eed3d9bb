/- TopDiv, walked. -/
import Derived.Test.YtkfgfodghnafgaaDoorHold
import Derived.Test.YtkfgfodghnafgaaDoorTextS
import Derived.Test.YtkfgfodghnafgaaDoorRegions
namespace Go.Proofs.YtkfgfodghnafgaaDoor
open Go.RowKit Limbs

theorem left_abs {r y : Int} (h : Left r y) (hy : y ≠ 0) : (if r < 0 then -r else r) < (if y < 0 then -y else y) := by
  obtain ⟨h1, h2⟩ := h
  rcases (by omega : 0 < y ∨ y < 0) with h | h
  · have := h1 h
    repeat' split
    all_goals omega
  · have := h2 h
    repeat' split
    all_goals omega

theorem NumL.sign {w : World} {neg : Bool} {s : Value} {z : Int} {n : Nat} (h : NumL w (.agg #[.bool neg, s]) z n) : (neg = true → z < 0) ∧ (neg = false → 0 ≤ z) := by
  obtain ⟨neg', s', zs, e, hl, hn, h0, hz, -⟩ := h
  simp only [Value.agg.injEq, Array.mk.injEq, List.cons.injEq, Value.bool.injEq, and_true] at e
  obtain ⟨rfl, rfl⟩ := e
  have hlb : LB zs := by obtain ⟨_, _, _, _, _, h, _⟩ := hl; exact h
  have hp := lv_nonneg hlb
  have hz0 := lv_zero_iff hlb hn
  constructor
  · intro e
    subst e
    have : zs.length ≠ 0 := fun h => by simpa using h0 h
    have : lv zs ≠ 0 := fun h => this (hz0.1 h)
    simp at hz
    omega
  · intro e
    subst e
    simp at hz
    omega

theorem left_sign {w w' : World} {rn bn : Bool} {rs s : Value} {r y : Int} {n m : Nat} (hr : NumL w (.agg #[.bool rn, rs]) r n) (hb : NumL w' (.agg #[.bool bn, s]) y m) (h : Left r y) (hr0 : r ≠ 0) (hy : y ≠ 0) : rn = bn := by
  have h1 := hr.sign
  have h2 := hb.sign
  obtain ⟨h3, h4⟩ := h
  rcases (by omega : 0 < y ∨ y < 0) with hy | hy
  · have := h3 hy
    cases rn <;> cases bn <;> simp_all <;> omega
  · have := h4 hy
    cases rn <;> cases bn <;> simp_all <;> omega

set_option linter.unusedSimpArgs false in
set_option maxRecDepth 100000 in
set_option maxHeartbeats 4000000 in
theorem topDiv_fit (w : World) (an bn : Bool) (ao bo : Option Addr) (acap bcap : Nat) (za zb : List Int)
    (ha : Lim w (.slice ao za.length acap) za) (hb : Lim w (.slice bo zb.length bcap) zb)
    (la : za.length ≤ 12) (lb : zb.length ≤ 12) (ga : isNum an za = true) (gb : isNum bn zb = true) :
    Calls Tryd.prog 7 #[.agg #[.bool an, .slice ao za.length acap], .agg #[.bool bn, .slice bo zb.length bcap]] w fun e w' => e = .returned (.bool true) ∧ Below w.heap.size w w' := by
  have HA := hide ha; have HB := hide hb
  have NA := hide (NumL.of_isNum ga ha la); have NB := hide (NumL.of_isNum gb hb lb)
  clear ha hb
  have HG : Hid ([⟨an, .slice ao za.length acap, za⟩, ⟨bn, .slice bo zb.length bcap, zb⟩].all Raw.good = true) := by
    show _ = _; simp [Raw.good, ga, gb, la, lb]
  clear ga gb
  go_enter Tryd.func7, Tryd.ntmps7
  go_wp2_with fail
  have hT := two w (.bool an) (.slice ao za.length acap) (.bool bn) (.slice bo zb.length bcap) 33 33
  generalize (w.alloc (.cells #[.bool an, .slice ao za.length acap] 33)).alloc (.cells #[.bool bn, .slice bo zb.length bcap] 33) = W at *
  refine (of_any W (-7) (by decide) (by decide)).mono ?_
  rintro e w1 ⟨r1, rfl, hr1, hb1⟩
  replace hT := hT.later hb1
  have HR1 := hide hr1; clear hr1 hb1
  go_wp2_with fail
  refine (of_any w1 2 (by decide) (by decide)).mono ?_
  rintro e w2 ⟨r2, rfl, hr2, hb2⟩
  replace hT := hT.later hb2
  have HR2 := hide hr2
  replace HR1 := hide (HR1.out.below hb2 (Nat.le_refl _))
  clear hr2 hb2
  go_wp2_with fail
  refine (div_any w2 _ _ (-7) 2 2 2 HR1.out HR2.out (by decide) (by decide)).mono ?_
  rintro e w3 ⟨vq, vr, q, r, rfl, hq, hr, hqr, hle, hb3⟩
  obtain ⟨rfl, rfl⟩ : q = -4 ∧ r = 1 := by have := hle.1 (by decide); omega
  replace hT := hT.later hb3
  have HQ := hide hq
  have HR := hide hr
  obtain ⟨qn, qs, qz, rfl, hlq, -⟩ := hq
  obtain ⟨qo, qcap, rfl, -⟩ := hlq
  obtain ⟨rn, rs, rz, rfl, hlr, -⟩ := hr
  obtain ⟨ro, rcap, rfl, -⟩ := hlr
  clear hb3 HR1 HR2 hqr hle
  have hH := hold_new hT (.bool qn) (.slice qo qz.length qcap) (.bool rn) (.slice ro rz.length rcap) 33 33
  have hbn : Below w3.heap.size w3 ((w3.alloc (.cells #[.bool qn, .slice qo qz.length qcap] 33)).alloc (.cells #[.bool rn, .slice ro rz.length rcap] 33)) := ((Below.refl _ _).alloc (Nat.le_refl _) _).alloc (by simp) _
  replace HQ := hide (HQ.out.below hbn (Nat.le_refl _))
  replace HR := hide (HR.out.below hbn (Nat.le_refl _))
  clear hbn hT
  go_wp2_with fail
  generalize (w3.alloc (.cells #[.bool qn, .slice qo qz.length qcap] 33)).alloc (.cells #[.bool rn, .slice ro rz.length rcap] 33) = W4 at *
  generalize w3.heap.size = C at *
  refine (text_small W4 _ (-4) 3 HQ.out (by decide) (by decide) (by decide)).mono ?_
  rintro e w5 ⟨rfl, hb5⟩
  rw [show txt (-4) = [45, 52] by decide +kernel]
  replace hH := hH.later hb5
  replace HR := hide (HR.out.below hb5 (Nat.le_refl _))
  clear HQ hb5
  obtain ⟨x0, x1, -, -⟩ := hH.d
  go_wp2_with fail
  refine (text_small w5 _ 1 2 HR.out (by decide) (by decide) (by decide)).mono ?_
  rintro e w6 ⟨rfl, hb6⟩
  rw [show txt 1 = [49] by decide +kernel]
  replace hH := hH.later hb6
  clear HR hb6 x0 x1
  obtain ⟨p0, p1, -, -⟩ := hH.a
  obtain ⟨q0, q1, -, -⟩ := hH.b
  have hH6 := hide hH; clear hH
  have d1 : decide (60 < (za.length : Int)) = false := by simp; omega
  have d2 : decide (60 < (zb.length : Int)) = false := by simp; omega
  go_wp2_with fail
  refine (fit_any _ w6.heap.size [⟨an, .slice ao za.length acap, za⟩, ⟨bn, .slice bo zb.length bcap, zb⟩] (raws2 _ _ _ _ _ _ _ _ (HA.out.below hH6.out.below (Nat.le_refl _)) (HB.out.below hH6.out.below (Nat.le_refl _))) (by simp)).mono ?_
  rintro e w7 ⟨rfl, hb7⟩
  rw [HG.out]
  have hH7 := hide (hH6.out.later ((((Below.refl _ _).alloc (Nat.le_refl _) _).trans (hb7.mono (by simp)))))
  clear hH6 p0 p1 q0 q1 hb7 HA HB HG d1 d2 la lb
  obtain ⟨p0, p1, -, -⟩ := hH7.out.a
  obtain ⟨q0, q1, -, -⟩ := hH7.out.b
  generalize sg an (lv za) = x at *
  generalize sg bn (lv zb) = y at *
  go_wp2_with fail
  by_cases hy : y = 0
  · subst hy
    refine (div_zero w7 _ _ x 12 12 (NA.out.below hH7.out.below (Nat.le_refl _)) (NB.out.below hH7.out.below (Nat.le_refl _))).mono ?_
    rintro e w8 ⟨rfl, hb8⟩
    have hH8 := hH7.out.later hb8
    obtain ⟨c0, c1, f0, f1⟩ := hH8.c
    obtain ⟨d0, d1, g0, g1⟩ := hH8.d
    have hH9 := hide (hH8.write (.bool false) (.slice none 0 0) (.bool false) (.slice none 0 0))
    have hcc : ¬ (C + 1 = C) := by omega
    have hcw := hH8.bc
    clear hH8 hH7 hb8 p0 p1 q0 q1
    obtain ⟨q0, q1, -, -⟩ := hH9.out.b
    go_wp2_with fail
    refine (zero_any _ _ 0 12 (NB.out.below hH9.out.below (Nat.le_refl _))).mono ?_
    rintro e w9 ⟨rfl, hb9⟩
    rw [decide_eq_true rfl]
    have hHa := hide (hH9.out.later hb9)
    clear hH9 hb9 q0 q1 c0 c1 f0 f1 d0 d1 g0 g1
    go_wp2_with fail
    refine (number_err _ 4).mono ?_
    rintro e wb ⟨rfl, rfl⟩
    go_wp2
    go_ret
    exact ⟨rfl, hHa.out.below⟩
  · refine (div_any w7 _ _ x y 12 12 (NA.out.below hH7.out.below (Nat.le_refl _)) (NB.out.below hH7.out.below (Nat.le_refl _)) hy (by decide)).mono ?_
    rintro e w8 ⟨vq, vr, q, r, rfl, hq, hr, hqr, hle, hb8⟩
    have hH8 := hH7.out.later hb8
    have HQ := hide hq
    have HR := hide hr
    obtain ⟨kn, ks, kz, rfl, hlq, -⟩ := hq
    obtain ⟨ko, kcap, rfl, -⟩ := hlq
    obtain ⟨ln, ls, lz, rfl, hlr, -⟩ := hr
    obtain ⟨lo, lcap, rfl, -⟩ := hlr
    obtain ⟨c0, c1, f0, f1⟩ := hH8.c
    obtain ⟨d0, d1, g0, g1⟩ := hH8.d
    have HNN := hH8.num (by simp) (by simp) (by simp) (by simp) HQ.out HR.out
    have hH9 := hide (hH8.write (.bool kn) (.slice ko kz.length kcap) (.bool ln) (.slice lo lz.length lcap))
    have hcc : ¬ (C + 1 = C) := by omega
    replace HQ := hide HNN.1
    replace HR := hide HNN.2
    have E1 := hide (show (cmpI (q * y + r) x == 0) = true by rw [cmpI_eq hqr.symm]; rfl)
    have E2 := hide (cmpI_lt (left_abs hle hy))
    have HSI := hide (fun h0 => left_sign HR.out NB.out hle h0 hy)
    have hY := hide (decide_eq_false hy)
    clear hH8 hH7 hb8 p0 p1 q0 q1 HNN hqr hle
    obtain ⟨p0, p1, -, -⟩ := hH9.out.a
    obtain ⟨q0, q1, -, -⟩ := hH9.out.b
    obtain ⟨s0, s1, -, -⟩ := hH9.out.c
    obtain ⟨t0, t1, -, -⟩ := hH9.out.d
    go_wp2_with fail
    refine (zero_any _ _ y 12 (NB.out.below hH9.out.below (Nat.le_refl _))).mono ?_
    rintro e w9 ⟨rfl, hb9⟩
    rw [hY.out]
    replace hH9 := hide (hH9.out.later hb9)
    replace HQ := hide (HQ.out.below hb9 (Nat.le_refl _))
    replace HR := hide (HR.out.below hb9 (Nat.le_refl _))
    clear hb9 p0 p1 q0 q1 s0 s1 t0 t1 c0 c1 f0 f1 d0 d1 g0 g1
    obtain ⟨p0, p1, -, -⟩ := hH9.out.a; obtain ⟨q0, q1, -, -⟩ := hH9.out.b; obtain ⟨s0, s1, -, -⟩ := hH9.out.c; obtain ⟨t0, t1, -, -⟩ := hH9.out.d
    by_cases hr0 : r = 0
    · have E3 := hide (decide_eq_true hr0)
      clear hr0 HSI hy
      go_wp2_with fail
      refine wp_region_held_drew (S := (fun w' => w'.cell? ⟨w.heap.size, 0, none⟩ = some (.bool an) ∧ w'.cell? ⟨w.heap.size, 1, none⟩ = some (.slice ao za.length acap) ∧ w'.cell? ⟨w.heap.size + 1, 0, none⟩ = some (.bool bn) ∧ w'.cell? ⟨w.heap.size + 1, 1, none⟩ = some (.slice bo zb.length bcap) ∧ w'.cell? ⟨C, 0, none⟩ = some (.bool kn) ∧ w'.cell? ⟨C, 1, none⟩ = some (.slice ko kz.length kcap) ∧ w'.cell? ⟨C + 1, 0, none⟩ = some (.bool ln) ∧ w'.cell? ⟨C + 1, 1, none⟩ = some (.slice lo lz.length lcap))) (by kernel_rfl) (by (try dsimp only); go_keep) (fun hHeld => ?_)
      refine held_run (v := ?_) 0 56 rfl rfl (by kernel_rfl) (by kernel_rfl) (by kernel_rfl) (fun _ _ _ h => h) (by rfl) ?_ (by assumption) ?_
      rotate_left
      · (intro w hSw; (try dsimp only at hSw); go_simp; with_reducible rfl)
      simp only [Act.put, List.setIfInBounds_toArray, List.set_cons_zero, List.set_cons_succ]
      refine held_run (v := ?_) 1 57 rfl rfl (by kernel_rfl) (by kernel_rfl) (by kernel_rfl) (fun _ _ _ h => h) (by rfl) ?_ (by assumption) ?_
      rotate_left
      · (intro w hSw; (try dsimp only at hSw); go_simp; with_reducible rfl)
      simp only [Act.put, List.setIfInBounds_toArray, List.set_cons_zero, List.set_cons_succ]
      refine held_run (v := ?_) 2 58 rfl rfl (by kernel_rfl) (by kernel_rfl) (by kernel_rfl) (fun _ _ _ h => h) (by rfl) ?_ (by assumption) ?_
      rotate_left
      · (intro w hSw; (try dsimp only at hSw); go_simp; with_reducible rfl)
      simp only [Act.put, List.setIfInBounds_toArray, List.set_cons_zero, List.set_cons_succ]
      refine held_run (v := ?_) 3 59 rfl rfl (by kernel_rfl) (by kernel_rfl) (by kernel_rfl) (fun _ _ _ h => h) (by rfl) ?_ (by assumption) ?_
      rotate_left
      · (intro w hSw; (try dsimp only at hSw); go_simp; with_reducible rfl)
      simp only [Act.put, List.setIfInBounds_toArray, List.set_cons_zero, List.set_cons_succ]
      refine held_run (v := ?_) 4 60 rfl rfl (by kernel_rfl) (by kernel_rfl) (by kernel_rfl) (fun _ _ _ h => h) (by rfl) ?_ (by assumption) ?_
      rotate_left
      · (intro w hSw; (try dsimp only at hSw); go_simp; with_reducible rfl)
      simp only [Act.put, List.setIfInBounds_toArray, List.set_cons_zero, List.set_cons_succ]
      refine held_run (v := ?_) 6 62 rfl rfl (by kernel_rfl) (by kernel_rfl) (by kernel_rfl) (fun _ _ _ h => h) (by rfl) ?_ (by assumption) ?_
      rotate_left
      · (intro w hSw; (try dsimp only at hSw); go_simp; with_reducible rfl)
      simp only [Act.put, List.setIfInBounds_toArray, List.set_cons_zero, List.set_cons_succ]
      refine held_run (v := ?_) 8 64 rfl rfl (by kernel_rfl) (by kernel_rfl) (by kernel_rfl) (fun _ _ _ h => h) (by rfl) ?_ (by assumption) ?_
      rotate_left
      · (intro w hSw; (try dsimp only at hSw); go_simp; with_reducible rfl)
      simp only [Act.put, List.setIfInBounds_toArray, List.set_cons_zero, List.set_cons_succ]
      refine wpAnyH_ready (rs := [5]) (by kernel_rfl) (by simp) (AllReadyH.cons (o := _) rfl (fun K hK => ?_) AllReadyH.nil)
      go_simp
      (refine (mul_any _ _ _ _ _ 13 12 (show NumL _ _ q 13 from by exact HQ.out) (NB.out.below hH9.out.drew.below (Nat.le_refl _)) (by decide) (by decide)).mono ?_; rintro e w10 ⟨v10, rfl, hv10, hb10⟩; have HX10 := hide hv10; clear hv10; have hH10 := hide (hH9.out.drew.later hb10); replace HR := hide (HR.out.below (drewed hb10) (Nat.le_refl _)); clear hb10; obtain ⟨p0, p1, -, -⟩ := hH10.out.a; obtain ⟨q0, q1, -, -⟩ := hH10.out.b; obtain ⟨s0, s1, -, -⟩ := hH10.out.c; obtain ⟨t0, t1, -, -⟩ := hH10.out.d)
      go_wp2_with fail
      refine hK.out _ _ (by (try dsimp only); go_keep) (fun hHeld => ?_)
      clear hK K
      try simp only [Act.put, List.setIfInBounds_toArray, List.set_cons_zero, List.set_cons_succ]
      refine wpAnyH_ready (rs := [7]) (by kernel_rfl) (by simp) (AllReadyH.cons (o := _) rfl (fun K hK => ?_) AllReadyH.nil)
      go_simp
      (refine (add_any _ _ _ _ _ 25 HX10.out (HR.out.mono (by decide)) (by decide)).mono ?_; rintro e w11 ⟨v11, rfl, hv11, hb11⟩; have HX11 := hide hv11; clear hv11; have hH11 := hide (hH10.out.later hb11); replace HR := hide (HR.out.below hb11 (Nat.le_refl _)); clear hb11; obtain ⟨p0, p1, -, -⟩ := hH11.out.a; obtain ⟨q0, q1, -, -⟩ := hH11.out.b; obtain ⟨s0, s1, -, -⟩ := hH11.out.c; obtain ⟨t0, t1, -, -⟩ := hH11.out.d)
      go_wp2_with fail
      refine hK.out _ _ (by (try dsimp only); go_keep) (fun hHeld => ?_)
      clear hK K
      try simp only [Act.put, List.setIfInBounds_toArray, List.set_cons_zero, List.set_cons_succ]
      refine wpAnyH_ready (rs := [9]) (by kernel_rfl) (by simp) (AllReadyH.cons (o := _) rfl (fun K hK => ?_) AllReadyH.nil)
      go_simp
      (refine (is_any _ _ _ _ _ 26 12 HX11.out (NA.out.below hH11.out.below (Nat.le_refl _))).mono ?_; rintro e w12 ⟨rfl, hb12⟩; rw [E1.out]; have hH12 := hide (hH11.out.later hb12); replace HR := hide (HR.out.below hb12 (Nat.le_refl _)); clear hb12; obtain ⟨p0, p1, -, -⟩ := hH12.out.a; obtain ⟨q0, q1, -, -⟩ := hH12.out.b; obtain ⟨s0, s1, -, -⟩ := hH12.out.c; obtain ⟨t0, t1, -, -⟩ := hH12.out.d)
      go_wp2_with fail
      refine hK.out _ _ (by (try dsimp only); go_keep) (fun hHeld => ?_)
      clear hK K
      try simp only [Act.put, List.setIfInBounds_toArray, List.set_cons_zero, List.set_cons_succ]
      refine held_run (v := ?_) 10 66 rfl rfl (by kernel_rfl) (by kernel_rfl) (by kernel_rfl) (fun _ _ _ h => h) (by rfl) ?_ (by assumption) ?_
      rotate_left
      · (intro w hSw; (try dsimp only at hSw); go_simp; with_reducible rfl)
      simp only [Act.put, List.setIfInBounds_toArray, List.set_cons_zero, List.set_cons_succ]
      refine held_run (v := ?_) 11 67 rfl rfl (by kernel_rfl) (by kernel_rfl) (by kernel_rfl) (fun _ _ _ h => h) (by rfl) ?_ (by assumption) ?_
      rotate_left
      · (intro w hSw; (try dsimp only at hSw); go_simp; with_reducible rfl)
      simp only [Act.put, List.setIfInBounds_toArray, List.set_cons_zero, List.set_cons_succ]
      refine held_run (v := ?_) 12 68 rfl rfl (by kernel_rfl) (by kernel_rfl) (by kernel_rfl) (fun _ _ _ h => h) (by rfl) ?_ (by assumption) ?_
      rotate_left
      · (intro w hSw; (try dsimp only at hSw); go_simp; with_reducible rfl)
      simp only [Act.put, List.setIfInBounds_toArray, List.set_cons_zero, List.set_cons_succ]
      refine held_run (v := ?_) 14 70 rfl rfl (by kernel_rfl) (by kernel_rfl) (by kernel_rfl) (fun _ _ _ h => h) (by rfl) ?_ (by assumption) ?_
      rotate_left
      · (intro w hSw; (try dsimp only at hSw); go_simp; with_reducible rfl)
      simp only [Act.put, List.setIfInBounds_toArray, List.set_cons_zero, List.set_cons_succ]
      refine wpAnyH_ready (rs := [13]) (by kernel_rfl) (by simp) (AllReadyH.cons (o := _) rfl (fun K hK => ?_) AllReadyH.nil)
      go_simp
      (refine (abs_any _ _ _ 12 HR.out (by decide)).mono ?_; rintro e w13 ⟨v13, rfl, hv13, hb13⟩; have HX13 := hide hv13; clear hv13; have hH13 := hide (hH12.out.later hb13); replace HR := hide (HR.out.below hb13 (Nat.le_refl _)); clear hb13; obtain ⟨p0, p1, -, -⟩ := hH13.out.a; obtain ⟨q0, q1, -, -⟩ := hH13.out.b; obtain ⟨s0, s1, -, -⟩ := hH13.out.c; obtain ⟨t0, t1, -, -⟩ := hH13.out.d)
      go_wp2_with fail
      refine hK.out _ _ (by (try dsimp only); go_keep) (fun hHeld => ?_)
      clear hK K
      try simp only [Act.put, List.setIfInBounds_toArray, List.set_cons_zero, List.set_cons_succ]
      refine wpAnyH_ready (rs := [15]) (by kernel_rfl) (by simp) (AllReadyH.cons (o := _) rfl (fun K hK => ?_) AllReadyH.nil)
      go_simp
      (refine (abs_any _ _ _ 12 (NB.out.below hH13.out.below (Nat.le_refl _)) (by decide)).mono ?_; rintro e w14 ⟨v14, rfl, hv14, hb14⟩; have HX14 := hide hv14; clear hv14; have hH14 := hide (hH13.out.later hb14); replace HR := hide (HR.out.below hb14 (Nat.le_refl _)); replace HX13 := hide (HX13.out.below hb14 (Nat.le_refl _)); clear hb14; obtain ⟨p0, p1, -, -⟩ := hH14.out.a; obtain ⟨q0, q1, -, -⟩ := hH14.out.b; obtain ⟨s0, s1, -, -⟩ := hH14.out.c; obtain ⟨t0, t1, -, -⟩ := hH14.out.d)
      go_wp2_with fail
      refine hK.out _ _ (by (try dsimp only); go_keep) (fun hHeld => ?_)
      clear hK K
      try simp only [Act.put, List.setIfInBounds_toArray, List.set_cons_zero, List.set_cons_succ]
      refine wpAnyH_ready (rs := [16]) (by kernel_rfl) (by simp) (AllReadyH.cons (o := _) rfl (fun K hK => ?_) AllReadyH.nil)
      go_simp
      (refine (compare_any _ _ _ _ _ 12 12 HX13.out HX14.out).mono ?_; rintro e w15 ⟨rfl, hb15⟩; rw [E2.out]; have hH15 := hide (hH14.out.later hb15); replace HR := hide (HR.out.below hb15 (Nat.le_refl _)); clear hb15; obtain ⟨p0, p1, -, -⟩ := hH15.out.a; obtain ⟨q0, q1, -, -⟩ := hH15.out.b; obtain ⟨s0, s1, -, -⟩ := hH15.out.c; obtain ⟨t0, t1, -, -⟩ := hH15.out.d)
      go_wp2_with fail
      refine hK.out _ _ (by (try dsimp only); go_keep) (fun hHeld => ?_)
      clear hK K
      try simp only [Act.put, List.setIfInBounds_toArray, List.set_cons_zero, List.set_cons_succ]
      refine held_run (v := ?_) 17 73 rfl rfl (by kernel_rfl) (by kernel_rfl) (by kernel_rfl) (fun _ _ _ h => h) (by rfl) ?_ (by assumption) ?_
      rotate_left
      · (intro w hSw; (try dsimp only at hSw); go_simp; with_reducible rfl)
      simp only [Act.put, List.setIfInBounds_toArray, List.set_cons_zero, List.set_cons_succ]
      refine held_run (v := ?_) 18 74 rfl rfl (by kernel_rfl) (by kernel_rfl) (by kernel_rfl) (fun _ _ _ h => h) (by rfl) ?_ (by assumption) ?_
      rotate_left
      · (intro w hSw; (try dsimp only at hSw); go_simp; with_reducible rfl)
      simp only [Act.put, List.setIfInBounds_toArray, List.set_cons_zero, List.set_cons_succ]
      refine held_run (v := ?_) 19 75 rfl rfl (by kernel_rfl) (by kernel_rfl) (by kernel_rfl) (fun _ _ _ h => h) (by rfl) ?_ (by assumption) ?_
      rotate_left
      · (intro w hSw; (try dsimp only at hSw); go_simp; with_reducible rfl)
      simp only [Act.put, List.setIfInBounds_toArray, List.set_cons_zero, List.set_cons_succ]
      refine held_run (v := ?_) 20 76 rfl rfl (by kernel_rfl) (by kernel_rfl) (by kernel_rfl) (fun _ _ _ h => h) (by rfl) ?_ (by assumption) ?_
      rotate_left
      · (intro w hSw; (try dsimp only at hSw); go_simp; with_reducible rfl)
      simp only [Act.put, List.setIfInBounds_toArray, List.set_cons_zero, List.set_cons_succ]
      refine wpAnyH_ready (rs := [21]) (by kernel_rfl) (by simp) (AllReadyH.cons (o := _) rfl (fun K hK => ?_) AllReadyH.nil)
      go_simp
      (refine (zero_any _ _ _ 12 HR.out).mono ?_; rintro e w16 ⟨rfl, hb16⟩; rw [E3.out]; have hH16 := hide (hH15.out.later hb16); clear hb16; obtain ⟨p0, p1, -, -⟩ := hH16.out.a; obtain ⟨q0, q1, -, -⟩ := hH16.out.b; obtain ⟨s0, s1, -, -⟩ := hH16.out.c; obtain ⟨t0, t1, -, -⟩ := hH16.out.d)
      go_wp2_with fail
      refine hK.out _ _ (by (try dsimp only); go_keep) (fun hHeld => ?_)
      clear hK K
      try simp only [Act.put, List.setIfInBounds_toArray, List.set_cons_zero, List.set_cons_succ]
      refine held_run (v := ?_) 22 78 rfl rfl (by kernel_rfl) (by kernel_rfl) (by kernel_rfl) (fun _ _ _ h => h) (by rfl) ?_ (by assumption) ?_
      rotate_left
      · (intro w hSw; (try dsimp only at hSw); go_simp; with_reducible rfl)
      simp only [Act.put, List.setIfInBounds_toArray, List.set_cons_zero, List.set_cons_succ]
      refine held_skip 23 79 rfl rfl (by kernel_rfl) (by kernel_rfl) (by kernel_rfl) (fun _ _ _ h => h) (by rfl) (by assumption) ?_
      simp only [Act.put, List.setIfInBounds_toArray, List.set_cons_zero, List.set_cons_succ]
      refine held_skip 24 80 rfl rfl (by kernel_rfl) (by kernel_rfl) (by kernel_rfl) (fun _ _ _ h => h) (by rfl) (by assumption) ?_
      simp only [Act.put, List.setIfInBounds_toArray, List.set_cons_zero, List.set_cons_succ]
      refine held_skip 25 81 rfl rfl (by kernel_rfl) (by kernel_rfl) (by kernel_rfl) (fun _ _ _ h => h) (by rfl) (by assumption) ?_
      simp only [Act.put, List.setIfInBounds_toArray, List.set_cons_zero, List.set_cons_succ]
      refine held_skip 26 82 rfl rfl (by kernel_rfl) (by kernel_rfl) (by kernel_rfl) (fun _ _ _ h => h) (by rfl) (by assumption) ?_
      simp only [Act.put, List.setIfInBounds_toArray, List.set_cons_zero, List.set_cons_succ]
      refine held_skip 27 83 rfl rfl (by kernel_rfl) (by kernel_rfl) (by kernel_rfl) (fun _ _ _ h => h) (by rfl) (by assumption) ?_
      simp only [Act.put, List.setIfInBounds_toArray, List.set_cons_zero, List.set_cons_succ]
      refine held_run (v := ?_) 28 84 rfl rfl (by kernel_rfl) (by kernel_rfl) (by kernel_rfl) (fun _ _ _ h => h) (by rfl) ?_ (by assumption) ?_
      rotate_left
      · (intro w hSw; (try dsimp only at hSw); go_simp; with_reducible rfl)
      simp only [Act.put, List.setIfInBounds_toArray, List.set_cons_zero, List.set_cons_succ]
      refine held_run (v := ?_) 29 85 rfl rfl (by kernel_rfl) (by kernel_rfl) (by kernel_rfl) (fun _ _ _ h => h) (by rfl) ?_ (by assumption) ?_
      rotate_left
      · (intro w hSw; (try dsimp only at hSw); go_simp; with_reducible rfl)
      simp only [Act.put, List.setIfInBounds_toArray, List.set_cons_zero, List.set_cons_succ]
      refine held_run (v := ?_) 30 4 rfl rfl (by kernel_rfl) (by kernel_rfl) (by kernel_rfl) (fun _ _ _ h => h) (by rfl) ?_ (by assumption) ?_
      rotate_left
      · (intro w hSw; (try dsimp only at hSw); go_simp; with_reducible rfl)
      simp only [Act.put, List.setIfInBounds_toArray, List.set_cons_zero, List.set_cons_succ]
      refine wpAnyH_done (by kernel_rfl) ?_ _
      go_wp2
      go_ret
      exact ⟨rfl, hH16.out.below⟩
    · have E3 := hide (decide_eq_false hr0)
      obtain rfl : ln = bn := HSI.out hr0
      clear hr0 HSI hy
      go_wp2_with fail
      refine wp_region_held_drew (S := (fun w' => w'.cell? ⟨w.heap.size, 0, none⟩ = some (.bool an) ∧ w'.cell? ⟨w.heap.size, 1, none⟩ = some (.slice ao za.length acap) ∧ w'.cell? ⟨w.heap.size + 1, 0, none⟩ = some (.bool ln) ∧ w'.cell? ⟨w.heap.size + 1, 1, none⟩ = some (.slice bo zb.length bcap) ∧ w'.cell? ⟨C, 0, none⟩ = some (.bool kn) ∧ w'.cell? ⟨C, 1, none⟩ = some (.slice ko kz.length kcap) ∧ w'.cell? ⟨C + 1, 0, none⟩ = some (.bool ln) ∧ w'.cell? ⟨C + 1, 1, none⟩ = some (.slice lo lz.length lcap))) (by kernel_rfl) (by (try dsimp only); go_keep) (fun hHeld => ?_)
      refine held_run (v := ?_) 0 56 rfl rfl (by kernel_rfl) (by kernel_rfl) (by kernel_rfl) (fun _ _ _ h => h) (by rfl) ?_ (by assumption) ?_
      rotate_left
      · (intro w hSw; (try dsimp only at hSw); go_simp; with_reducible rfl)
      simp only [Act.put, List.setIfInBounds_toArray, List.set_cons_zero, List.set_cons_succ]
      refine held_run (v := ?_) 1 57 rfl rfl (by kernel_rfl) (by kernel_rfl) (by kernel_rfl) (fun _ _ _ h => h) (by rfl) ?_ (by assumption) ?_
      rotate_left
      · (intro w hSw; (try dsimp only at hSw); go_simp; with_reducible rfl)
      simp only [Act.put, List.setIfInBounds_toArray, List.set_cons_zero, List.set_cons_succ]
      refine held_run (v := ?_) 2 58 rfl rfl (by kernel_rfl) (by kernel_rfl) (by kernel_rfl) (fun _ _ _ h => h) (by rfl) ?_ (by assumption) ?_
      rotate_left
      · (intro w hSw; (try dsimp only at hSw); go_simp; with_reducible rfl)
      simp only [Act.put, List.setIfInBounds_toArray, List.set_cons_zero, List.set_cons_succ]
      refine held_run (v := ?_) 3 59 rfl rfl (by kernel_rfl) (by kernel_rfl) (by kernel_rfl) (fun _ _ _ h => h) (by rfl) ?_ (by assumption) ?_
      rotate_left
      · (intro w hSw; (try dsimp only at hSw); go_simp; with_reducible rfl)
      simp only [Act.put, List.setIfInBounds_toArray, List.set_cons_zero, List.set_cons_succ]
      refine held_run (v := ?_) 4 60 rfl rfl (by kernel_rfl) (by kernel_rfl) (by kernel_rfl) (fun _ _ _ h => h) (by rfl) ?_ (by assumption) ?_
      rotate_left
      · (intro w hSw; (try dsimp only at hSw); go_simp; with_reducible rfl)
      simp only [Act.put, List.setIfInBounds_toArray, List.set_cons_zero, List.set_cons_succ]
      refine held_run (v := ?_) 6 62 rfl rfl (by kernel_rfl) (by kernel_rfl) (by kernel_rfl) (fun _ _ _ h => h) (by rfl) ?_ (by assumption) ?_
      rotate_left
      · (intro w hSw; (try dsimp only at hSw); go_simp; with_reducible rfl)
      simp only [Act.put, List.setIfInBounds_toArray, List.set_cons_zero, List.set_cons_succ]
      refine held_run (v := ?_) 8 64 rfl rfl (by kernel_rfl) (by kernel_rfl) (by kernel_rfl) (fun _ _ _ h => h) (by rfl) ?_ (by assumption) ?_
      rotate_left
      · (intro w hSw; (try dsimp only at hSw); go_simp; with_reducible rfl)
      simp only [Act.put, List.setIfInBounds_toArray, List.set_cons_zero, List.set_cons_succ]
      refine wpAnyH_ready (rs := [5]) (by kernel_rfl) (by simp) (AllReadyH.cons (o := _) rfl (fun K hK => ?_) AllReadyH.nil)
      go_simp
      (refine (mul_any _ _ _ _ _ 13 12 (show NumL _ _ q 13 from by exact HQ.out) (NB.out.below hH9.out.drew.below (Nat.le_refl _)) (by decide) (by decide)).mono ?_; rintro e w10 ⟨v10, rfl, hv10, hb10⟩; have HX10 := hide hv10; clear hv10; have hH10 := hide (hH9.out.drew.later hb10); replace HR := hide (HR.out.below (drewed hb10) (Nat.le_refl _)); clear hb10; obtain ⟨p0, p1, -, -⟩ := hH10.out.a; obtain ⟨q0, q1, -, -⟩ := hH10.out.b; obtain ⟨s0, s1, -, -⟩ := hH10.out.c; obtain ⟨t0, t1, -, -⟩ := hH10.out.d)
      go_wp2_with fail
      refine hK.out _ _ (by (try dsimp only); go_keep) (fun hHeld => ?_)
      clear hK K
      try simp only [Act.put, List.setIfInBounds_toArray, List.set_cons_zero, List.set_cons_succ]
      refine wpAnyH_ready (rs := [7]) (by kernel_rfl) (by simp) (AllReadyH.cons (o := _) rfl (fun K hK => ?_) AllReadyH.nil)
      go_simp
      (refine (add_any _ _ _ _ _ 25 HX10.out (HR.out.mono (by decide)) (by decide)).mono ?_; rintro e w11 ⟨v11, rfl, hv11, hb11⟩; have HX11 := hide hv11; clear hv11; have hH11 := hide (hH10.out.later hb11); replace HR := hide (HR.out.below hb11 (Nat.le_refl _)); clear hb11; obtain ⟨p0, p1, -, -⟩ := hH11.out.a; obtain ⟨q0, q1, -, -⟩ := hH11.out.b; obtain ⟨s0, s1, -, -⟩ := hH11.out.c; obtain ⟨t0, t1, -, -⟩ := hH11.out.d)
      go_wp2_with fail
      refine hK.out _ _ (by (try dsimp only); go_keep) (fun hHeld => ?_)
      clear hK K
      try simp only [Act.put, List.setIfInBounds_toArray, List.set_cons_zero, List.set_cons_succ]
      refine wpAnyH_ready (rs := [9]) (by kernel_rfl) (by simp) (AllReadyH.cons (o := _) rfl (fun K hK => ?_) AllReadyH.nil)
      go_simp
      (refine (is_any _ _ _ _ _ 26 12 HX11.out (NA.out.below hH11.out.below (Nat.le_refl _))).mono ?_; rintro e w12 ⟨rfl, hb12⟩; rw [E1.out]; have hH12 := hide (hH11.out.later hb12); replace HR := hide (HR.out.below hb12 (Nat.le_refl _)); clear hb12; obtain ⟨p0, p1, -, -⟩ := hH12.out.a; obtain ⟨q0, q1, -, -⟩ := hH12.out.b; obtain ⟨s0, s1, -, -⟩ := hH12.out.c; obtain ⟨t0, t1, -, -⟩ := hH12.out.d)
      go_wp2_with fail
      refine hK.out _ _ (by (try dsimp only); go_keep) (fun hHeld => ?_)
      clear hK K
      try simp only [Act.put, List.setIfInBounds_toArray, List.set_cons_zero, List.set_cons_succ]
      refine held_run (v := ?_) 10 66 rfl rfl (by kernel_rfl) (by kernel_rfl) (by kernel_rfl) (fun _ _ _ h => h) (by rfl) ?_ (by assumption) ?_
      rotate_left
      · (intro w hSw; (try dsimp only at hSw); go_simp; with_reducible rfl)
      simp only [Act.put, List.setIfInBounds_toArray, List.set_cons_zero, List.set_cons_succ]
      refine held_run (v := ?_) 11 67 rfl rfl (by kernel_rfl) (by kernel_rfl) (by kernel_rfl) (fun _ _ _ h => h) (by rfl) ?_ (by assumption) ?_
      rotate_left
      · (intro w hSw; (try dsimp only at hSw); go_simp; with_reducible rfl)
      simp only [Act.put, List.setIfInBounds_toArray, List.set_cons_zero, List.set_cons_succ]
      refine held_run (v := ?_) 12 68 rfl rfl (by kernel_rfl) (by kernel_rfl) (by kernel_rfl) (fun _ _ _ h => h) (by rfl) ?_ (by assumption) ?_
      rotate_left
      · (intro w hSw; (try dsimp only at hSw); go_simp; with_reducible rfl)
      simp only [Act.put, List.setIfInBounds_toArray, List.set_cons_zero, List.set_cons_succ]
      refine held_run (v := ?_) 14 70 rfl rfl (by kernel_rfl) (by kernel_rfl) (by kernel_rfl) (fun _ _ _ h => h) (by rfl) ?_ (by assumption) ?_
      rotate_left
      · (intro w hSw; (try dsimp only at hSw); go_simp; with_reducible rfl)
      simp only [Act.put, List.setIfInBounds_toArray, List.set_cons_zero, List.set_cons_succ]
      refine wpAnyH_ready (rs := [13]) (by kernel_rfl) (by simp) (AllReadyH.cons (o := _) rfl (fun K hK => ?_) AllReadyH.nil)
      go_simp
      (refine (abs_any _ _ _ 12 HR.out (by decide)).mono ?_; rintro e w13 ⟨v13, rfl, hv13, hb13⟩; have HX13 := hide hv13; clear hv13; have hH13 := hide (hH12.out.later hb13); replace HR := hide (HR.out.below hb13 (Nat.le_refl _)); clear hb13; obtain ⟨p0, p1, -, -⟩ := hH13.out.a; obtain ⟨q0, q1, -, -⟩ := hH13.out.b; obtain ⟨s0, s1, -, -⟩ := hH13.out.c; obtain ⟨t0, t1, -, -⟩ := hH13.out.d)
      go_wp2_with fail
      refine hK.out _ _ (by (try dsimp only); go_keep) (fun hHeld => ?_)
      clear hK K
      try simp only [Act.put, List.setIfInBounds_toArray, List.set_cons_zero, List.set_cons_succ]
      refine wpAnyH_ready (rs := [15]) (by kernel_rfl) (by simp) (AllReadyH.cons (o := _) rfl (fun K hK => ?_) AllReadyH.nil)
      go_simp
      (refine (abs_any _ _ _ 12 (NB.out.below hH13.out.below (Nat.le_refl _)) (by decide)).mono ?_; rintro e w14 ⟨v14, rfl, hv14, hb14⟩; have HX14 := hide hv14; clear hv14; have hH14 := hide (hH13.out.later hb14); replace HR := hide (HR.out.below hb14 (Nat.le_refl _)); replace HX13 := hide (HX13.out.below hb14 (Nat.le_refl _)); clear hb14; obtain ⟨p0, p1, -, -⟩ := hH14.out.a; obtain ⟨q0, q1, -, -⟩ := hH14.out.b; obtain ⟨s0, s1, -, -⟩ := hH14.out.c; obtain ⟨t0, t1, -, -⟩ := hH14.out.d)
      go_wp2_with fail
      refine hK.out _ _ (by (try dsimp only); go_keep) (fun hHeld => ?_)
      clear hK K
      try simp only [Act.put, List.setIfInBounds_toArray, List.set_cons_zero, List.set_cons_succ]
      refine wpAnyH_ready (rs := [16]) (by kernel_rfl) (by simp) (AllReadyH.cons (o := _) rfl (fun K hK => ?_) AllReadyH.nil)
      go_simp
      (refine (compare_any _ _ _ _ _ 12 12 HX13.out HX14.out).mono ?_; rintro e w15 ⟨rfl, hb15⟩; rw [E2.out]; have hH15 := hide (hH14.out.later hb15); replace HR := hide (HR.out.below hb15 (Nat.le_refl _)); clear hb15; obtain ⟨p0, p1, -, -⟩ := hH15.out.a; obtain ⟨q0, q1, -, -⟩ := hH15.out.b; obtain ⟨s0, s1, -, -⟩ := hH15.out.c; obtain ⟨t0, t1, -, -⟩ := hH15.out.d)
      go_wp2_with fail
      refine hK.out _ _ (by (try dsimp only); go_keep) (fun hHeld => ?_)
      clear hK K
      try simp only [Act.put, List.setIfInBounds_toArray, List.set_cons_zero, List.set_cons_succ]
      refine held_run (v := ?_) 17 73 rfl rfl (by kernel_rfl) (by kernel_rfl) (by kernel_rfl) (fun _ _ _ h => h) (by rfl) ?_ (by assumption) ?_
      rotate_left
      · (intro w hSw; (try dsimp only at hSw); go_simp; with_reducible rfl)
      simp only [Act.put, List.setIfInBounds_toArray, List.set_cons_zero, List.set_cons_succ]
      refine held_run (v := ?_) 18 74 rfl rfl (by kernel_rfl) (by kernel_rfl) (by kernel_rfl) (fun _ _ _ h => h) (by rfl) ?_ (by assumption) ?_
      rotate_left
      · (intro w hSw; (try dsimp only at hSw); go_simp; with_reducible rfl)
      simp only [Act.put, List.setIfInBounds_toArray, List.set_cons_zero, List.set_cons_succ]
      refine held_run (v := ?_) 19 75 rfl rfl (by kernel_rfl) (by kernel_rfl) (by kernel_rfl) (fun _ _ _ h => h) (by rfl) ?_ (by assumption) ?_
      rotate_left
      · (intro w hSw; (try dsimp only at hSw); go_simp; with_reducible rfl)
      simp only [Act.put, List.setIfInBounds_toArray, List.set_cons_zero, List.set_cons_succ]
      refine held_run (v := ?_) 20 76 rfl rfl (by kernel_rfl) (by kernel_rfl) (by kernel_rfl) (fun _ _ _ h => h) (by rfl) ?_ (by assumption) ?_
      rotate_left
      · (intro w hSw; (try dsimp only at hSw); go_simp; with_reducible rfl)
      simp only [Act.put, List.setIfInBounds_toArray, List.set_cons_zero, List.set_cons_succ]
      refine wpAnyH_ready (rs := [21]) (by kernel_rfl) (by simp) (AllReadyH.cons (o := _) rfl (fun K hK => ?_) AllReadyH.nil)
      go_simp
      (refine (zero_any _ _ _ 12 HR.out).mono ?_; rintro e w16 ⟨rfl, hb16⟩; rw [E3.out]; have hH16 := hide (hH15.out.later hb16); clear hb16; obtain ⟨p0, p1, -, -⟩ := hH16.out.a; obtain ⟨q0, q1, -, -⟩ := hH16.out.b; obtain ⟨s0, s1, -, -⟩ := hH16.out.c; obtain ⟨t0, t1, -, -⟩ := hH16.out.d)
      go_wp2_with fail
      refine hK.out _ _ (by (try dsimp only); go_keep) (fun hHeld => ?_)
      clear hK K
      try simp only [Act.put, List.setIfInBounds_toArray, List.set_cons_zero, List.set_cons_succ]
      refine held_run (v := ?_) 22 78 rfl rfl (by kernel_rfl) (by kernel_rfl) (by kernel_rfl) (fun _ _ _ h => h) (by rfl) ?_ (by assumption) ?_
      rotate_left
      · (intro w hSw; (try dsimp only at hSw); go_simp; with_reducible rfl)
      simp only [Act.put, List.setIfInBounds_toArray, List.set_cons_zero, List.set_cons_succ]
      refine held_run (v := ?_) 23 79 rfl rfl (by kernel_rfl) (by kernel_rfl) (by kernel_rfl) (fun _ _ _ h => h) (by rfl) ?_ (by assumption) ?_
      rotate_left
      · (intro w hSw; (try dsimp only at hSw); go_simp; with_reducible rfl)
      simp only [Act.put, List.setIfInBounds_toArray, List.set_cons_zero, List.set_cons_succ]
      refine held_run (v := ?_) 24 80 rfl rfl (by kernel_rfl) (by kernel_rfl) (by kernel_rfl) (fun _ _ _ h => h) (by rfl) ?_ (by assumption) ?_
      rotate_left
      · (intro w hSw; (try dsimp only at hSw); go_simp; with_reducible rfl)
      simp only [Act.put, List.setIfInBounds_toArray, List.set_cons_zero, List.set_cons_succ]
      refine held_run (v := ?_) 25 81 rfl rfl (by kernel_rfl) (by kernel_rfl) (by kernel_rfl) (fun _ _ _ h => h) (by rfl) ?_ (by assumption) ?_
      rotate_left
      · (intro w hSw; (try dsimp only at hSw); go_simp; with_reducible rfl)
      simp only [Act.put, List.setIfInBounds_toArray, List.set_cons_zero, List.set_cons_succ]
      refine held_run (v := ?_) 26 82 rfl rfl (by kernel_rfl) (by kernel_rfl) (by kernel_rfl) (fun _ _ _ h => h) (by rfl) ?_ (by assumption) ?_
      rotate_left
      · (intro w hSw; (try dsimp only at hSw); go_simp; with_reducible rfl)
      simp only [Act.put, List.setIfInBounds_toArray, List.set_cons_zero, List.set_cons_succ]
      refine held_run (v := ?_) 27 83 rfl rfl (by kernel_rfl) (by kernel_rfl) (by kernel_rfl) (fun _ _ _ h => h) (by rfl) ?_ (by assumption) ?_
      rotate_left
      · (intro w hSw; (try dsimp only at hSw); go_simp; with_reducible rfl)
      simp only [Act.put, List.setIfInBounds_toArray, List.set_cons_zero, List.set_cons_succ]
      refine held_run (v := ?_) 28 84 rfl rfl (by kernel_rfl) (by kernel_rfl) (by kernel_rfl) (fun _ _ _ h => h) (by rfl) ?_ (by assumption) ?_
      rotate_left
      · (intro w hSw; (try dsimp only at hSw); go_simp; with_reducible rfl)
      simp only [Act.put, List.setIfInBounds_toArray, List.set_cons_zero, List.set_cons_succ]
      refine held_run (v := ?_) 29 85 rfl rfl (by kernel_rfl) (by kernel_rfl) (by kernel_rfl) (fun _ _ _ h => h) (by rfl) ?_ (by assumption) ?_
      rotate_left
      · (intro w hSw; (try dsimp only at hSw); go_simp; with_reducible rfl)
      simp only [Act.put, List.setIfInBounds_toArray, List.set_cons_zero, List.set_cons_succ]
      refine held_run (v := ?_) 30 4 rfl rfl (by kernel_rfl) (by kernel_rfl) (by kernel_rfl) (fun _ _ _ h => h) (by rfl) ?_ (by assumption) ?_
      rotate_left
      · (intro w hSw; (try dsimp only at hSw); go_simp; with_reducible rfl)
      simp only [Act.put, List.setIfInBounds_toArray, List.set_cons_zero, List.set_cons_succ]
      refine wpAnyH_done (by kernel_rfl) ?_ _
      go_wp2
      go_ret
      exact ⟨rfl, hH16.out.below⟩

end Go.Proofs.YtkfgfodghnafgaaDoor
