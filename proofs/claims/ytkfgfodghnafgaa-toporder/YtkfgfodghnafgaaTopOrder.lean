/- TopOrder, walked. -/
import Derived.Test.YtkfgfodghnafgaaFit
import Derived.Test.YtkfgfodghnafgaaRegions
import Derived.Deep.DeepCutAuto
namespace Go.Proofs.Ytkfgfodghnafgaa
open Go.RowKit Limbs

theorem cmpI_bd (a b : Int) : -1 ≤ cmpI a b ∧ cmpI a b ≤ 1 := by unfold cmpI; split; decide; split <;> decide

theorem cmpI_anti (a b : Int) : cmpI b a = -cmpI a b := by
  unfold cmpI
  repeat' split
  all_goals omega
theorem cmpI_add (a b c : Int) : cmpI (a + c) (b + c) = cmpI a b := by
  unfold cmpI
  repeat' split
  all_goals omega
theorem cmpI_trans (a b c : Int) (h1 : cmpI a b ≤ 0) (h2 : cmpI b c ≤ 0) : cmpI a c ≤ 0 := by
  unfold cmpI at *
  repeat' split at h1
  all_goals repeat' split at h2
  all_goals repeat' split
  all_goals omega
theorem cmpI_mul (a b c : Int) (h : 0 < c) : cmpI (a * c) (b * c) = cmpI a b := by
  by_cases h1 : a < b
  · rw [cmpI_lt h1, cmpI_lt (Int.mul_lt_mul_of_pos_right h1 h)]
  · by_cases h2 : b < a
    · rw [cmpI_gt h2, cmpI_gt (Int.mul_lt_mul_of_pos_right h2 h)]
    · obtain rfl : a = b := by omega
      rw [cmpI_eq rfl, cmpI_eq rfl]

/-- Three structs' cells in a row. -/
theorem raws3 (W : World) (n1 n2 n3 : Bool) (s1 s2 s3 : Value) (z1 z2 z3 : List Int) (t : TypeId) (h1 : Lim W s1 z1) (h2 : Lim W s2 z2) (h3 : Lim W s3 z3) :
    Raws (W.alloc (.cells #[.bool n1, s1, .bool n2, s2, .bool n3, s3] t)) W.heap.size [⟨n1, s1, z1⟩, ⟨n2, s2, z2⟩, ⟨n3, s3, z3⟩] := by
  have hb : ∀ {s z}, Lim W s z → Lim (W.alloc (.cells #[.bool n1, s1, .bool n2, s2, .bool n3, s3] t)) s z := fun h => h.below ((Below.refl _ _).alloc (Nat.le_refl _) _) (Nat.le_refl _)
  refine ⟨by simp, fun i r hi => ?_⟩
  match i, hi with
  | 0, hi => simp at hi; subst hi; exact ⟨by simp, by simp, hb h1⟩
  | 1, hi => simp at hi; subst hi; exact ⟨by simp, by simp, hb h2⟩
  | 2, hi => simp at hi; subst hi; exact ⟨by simp, by simp, hb h3⟩

set_option linter.unusedSimpArgs false in
set_option maxRecDepth 100000 in
set_option maxHeartbeats 4000000 in
theorem topOrder_fit (w : World) (an bn cn : Bool) (ao bo co : Option Addr) (acap bcap ccap : Nat) (za zb zc : List Int)
    (ha : Lim w (.slice ao za.length acap) za) (hb : Lim w (.slice bo zb.length bcap) zb) (hc : Lim w (.slice co zc.length ccap) zc)
    (la : za.length ≤ 12) (lb : zb.length ≤ 12) (lc : zc.length ≤ 12) (ga : isNum an za = true) (gb : isNum bn zb = true) (gc : isNum cn zc = true) :
    Calls Try.prog 3 #[.agg #[.bool an, .slice ao za.length acap], .agg #[.bool bn, .slice bo zb.length bcap], .agg #[.bool cn, .slice co zc.length ccap]] w fun e w' => e = .returned (.bool true) ∧ Below w.heap.size w w' := by
  have HA := hide ha; have HB := hide hb; have HC := hide hc
  have NA := hide (NumL.of_isNum ga ha la); have NB := hide (NumL.of_isNum gb hb lb); have NC := hide (NumL.of_isNum gc hc lc)
  have HZ0 : Hid (0 ≤ lv zc) := by obtain ⟨_, _, _, _, _, h, _⟩ := hc; exact lv_nonneg h
  clear ha hb hc
  have HG : Hid ([⟨an, .slice ao za.length acap, za⟩, ⟨bn, .slice bo zb.length bcap, zb⟩, ⟨cn, .slice co zc.length ccap, zc⟩].all Raw.good = true) := by
    show _ = _; simp [Raw.good, ga, gb, gc, la, lb, lc]
  clear ga gb gc
  go_enter Try.func3, Try.ntmps3
  go_wp2_with fail
  have hT := three w (.bool an) (.slice ao za.length acap) (.bool bn) (.slice bo zb.length bcap) (.bool cn) (.slice co zc.length ccap) 24 24 24
  generalize ((w.alloc (.cells #[.bool an, .slice ao za.length acap] 24)).alloc (.cells #[.bool bn, .slice bo zb.length bcap] 24)).alloc (.cells #[.bool cn, .slice co zc.length ccap] 24) = W at *
  refine (of_any W 2 (by decide) (by decide)).mono ?_
  rintro e w1 ⟨r1, rfl, hr1, hb1⟩
  replace hT := hT.later hb1
  have HR1 := hide hr1; clear hr1 hb1
  go_wp2_with fail
  refine (of_any w1 3 (by decide) (by decide)).mono ?_
  rintro e w2 ⟨r2, rfl, hr2, hb2⟩
  replace hT := hT.later hb2
  have HR2 := hide hr2
  replace HR1 := hide (HR1.out.below hb2 (Nat.le_refl _))
  clear hr2 hb2
  go_wp2_with fail
  refine (compare_any w2 _ _ 2 3 2 2 HR1.out HR2.out).mono ?_
  rintro e w3 ⟨rfl, hb3⟩
  replace hT := hT.later hb3
  clear HR1 HR2 hb3
  rw [show cmpI 2 3 = -1 from by decide]
  obtain ⟨p0, p1, -, -⟩ := hT.fst
  obtain ⟨q0, q1, -, -⟩ := hT.snd
  obtain ⟨s0, s1, -, -⟩ := hT.res
  have hT3 := hide hT; clear hT
  have d1 : decide (60 < (za.length : Int)) = false := by simp; omega
  have d2 : decide (60 < (zb.length : Int)) = false := by simp; omega
  have d3 : decide (60 < (zc.length : Int)) = false := by simp; omega
  go_wp2_with fail
  refine (fit_any _ w3.heap.size [⟨an, .slice ao za.length acap, za⟩, ⟨bn, .slice bo zb.length bcap, zb⟩, ⟨cn, .slice co zc.length ccap, zc⟩] (raws3 _ _ _ _ _ _ _ _ _ _ _ (HA.out.below hT3.out.below (Nat.le_refl _)) (HB.out.below hT3.out.below (Nat.le_refl _)) (HC.out.below hT3.out.below (Nat.le_refl _))) (by simp)).mono ?_
  rintro e w4 ⟨rfl, hb4⟩
  rw [HG.out]
  have hT4 := hide (hT3.out.later ((((Below.refl _ _).alloc (Nat.le_refl _) _).trans (hb4.mono (by simp)))))
  clear hT3 p0 p1 q0 q1 s0 s1 hb4 HA HB HC HG
  obtain ⟨p0, p1, -, -⟩ := hT4.out.fst
  obtain ⟨q0, q1, -, -⟩ := hT4.out.snd
  obtain ⟨s0, s1, -, -⟩ := hT4.out.res
  go_wp2_with fail
  refine (compare_any w4 _ _ _ _ 12 12 (NA.out.below hT4.out.below (Nat.le_refl _)) (NB.out.below hT4.out.below (Nat.le_refl _))).mono ?_
  rintro e w5 ⟨rfl, hb5⟩
  have hT5 := hide (hT4.out.later hb5)
  clear hT4 p0 p1 q0 q1 s0 s1 hb5
  obtain ⟨p0, p1, -, -⟩ := hT5.out.fst
  obtain ⟨q0, q1, -, -⟩ := hT5.out.snd
  obtain ⟨s0, s1, -, -⟩ := hT5.out.res
  generalize sg an (lv za) = x at *
  generalize sg bn (lv zb) = y at *
  generalize hz : sg cn (lv zc) = z at *
  go_wp2_with fail
  have C1 := hide (fun W (h : Three w W (.bool an) (.slice ao za.length acap) (.bool bn) (.slice bo zb.length bcap) (.bool cn) (.slice co zc.length ccap)) => compare_any W _ _ _ _ 12 12 (NB.out.below h.below (Nat.le_refl _)) (NA.out.below h.below (Nat.le_refl _)))
  have C2 := hide (fun W (h : Three w W (.bool an) (.slice ao za.length acap) (.bool bn) (.slice bo zb.length bcap) (.bool cn) (.slice co zc.length ccap)) => compare_any W _ _ _ _ 12 12 (NB.out.below h.below (Nat.le_refl _)) (NC.out.below h.below (Nat.le_refl _)))
  have C3 := hide (fun W (h : Three w W (.bool an) (.slice ao za.length acap) (.bool bn) (.slice bo zb.length bcap) (.bool cn) (.slice co zc.length ccap)) => compare_any W _ _ _ _ 12 12 (NA.out.below h.below (Nat.le_refl _)) (NC.out.below h.below (Nat.le_refl _)))
  have C4 := hide (fun W (h : Three w W (.bool an) (.slice ao za.length acap) (.bool bn) (.slice bo zb.length bcap) (.bool cn) (.slice co zc.length ccap)) => add_any W _ _ _ _ 12 (NA.out.below h.below (Nat.le_refl _)) (NC.out.below h.below (Nat.le_refl _)) (by decide))
  have C5 := hide (fun W (h : Three w W (.bool an) (.slice ao za.length acap) (.bool bn) (.slice bo zb.length bcap) (.bool cn) (.slice co zc.length ccap)) => add_any W _ _ _ _ 12 (NB.out.below h.below (Nat.le_refl _)) (NC.out.below h.below (Nat.le_refl _)) (by decide))
  have HS := hide (cmpI_add x y z)
  have HM := hide (cmpI_mul x y z)
  rw [cmpI_anti x y] at C1
  have hk := cmpI_bd x y
  have hk1 := cmpI_bd y z
  have hk2 := cmpI_bd x z
  have htr := cmpI_trans x y z
  generalize cmpI x y = k at *
  generalize cmpI y z = k1 at *
  generalize cmpI x z = k2 at *
  go_cut [71] (fun t wc => t = .bool false ∧ Three w wc (.bool an) (.slice ao za.length acap) (.bool bn) (.slice bo zb.length bcap) (.bool cn) (.slice co zc.length ccap))
  case first =>
    have tok1 : True := trivial
    have tok2 : True := trivial
    have tok3 : True := trivial
    have tok4 : True := trivial
    have tok5 : True := trivial
    have tok6 : True := trivial
    have hwk : IntKind.i64.wrap k = k := by rw [IntKind.wrap_i64]; omega
    by_cases h1 : k ≤ 0
    · by_cases h2 : k1 ≤ 0
      · have h3 := htr h1 h2
        have e1 : decide (k ≤ 0) = true := decide_eq_true h1
        have e2 : decide (k1 ≤ 0) = true := decide_eq_true h2
        have e3 : decide (0 < k2) = false := decide_eq_false (by omega)
        clear htr
        go_region_held3 (fun w' => w'.cell? ⟨w.heap.size, 0, none⟩ = some (.bool an) ∧ w'.cell? ⟨w.heap.size, 1, none⟩ = some (.slice ao za.length acap) ∧ w'.cell? ⟨w.heap.size + 1, 0, none⟩ = some (.bool bn) ∧ w'.cell? ⟨w.heap.size + 1, 1, none⟩ = some (.slice bo zb.length bcap) ∧ w'.cell? ⟨w.heap.size + 1 + 1, 0, none⟩ = some (.bool cn) ∧ w'.cell? ⟨w.heap.size + 1 + 1, 1, none⟩ = some (.slice co zc.length ccap)) (go_keep)
        (first
          | (go_at_call 4; have _t := tok1; refine (C1.out _ hT5.out.drew).mono ?_; rintro e w6 ⟨rfl, hb6⟩; have hT6 := hide (hT5.out.drew.later hb6); clear hb6 tok1; obtain ⟨p0, p1, -, -⟩ := hT6.out.fst; obtain ⟨q0, q1, -, -⟩ := hT6.out.snd; obtain ⟨s0, s1, -, -⟩ := hT6.out.res)
          | (go_at_call 4; have _t := tok2; refine (C2.out _ hT6.out).mono ?_; rintro e w7 ⟨rfl, hb7⟩; have hT7 := hide (hT6.out.later hb7); clear hb7 tok2; obtain ⟨p0, p1, -, -⟩ := hT7.out.fst; obtain ⟨q0, q1, -, -⟩ := hT7.out.snd; obtain ⟨s0, s1, -, -⟩ := hT7.out.res)
          | (go_at_call 4; have _t := tok3; refine (C3.out _ hT7.out).mono ?_; rintro e w8 ⟨rfl, hb8⟩; have hT8 := hide (hT7.out.later hb8); clear hb8 tok3; obtain ⟨p0, p1, -, -⟩ := hT8.out.fst; obtain ⟨q0, q1, -, -⟩ := hT8.out.snd; obtain ⟨s0, s1, -, -⟩ := hT8.out.res)
          | (go_at_call 7; have _t := tok4; refine (C4.out _ hT8.out).mono ?_; rintro e w9 ⟨r3, rfl, hr3, hb9⟩; have HR3 := hide hr3; have hT9 := hide (hT8.out.later hb9); clear hb9 tok4 hr3; obtain ⟨p0, p1, -, -⟩ := hT9.out.fst; obtain ⟨q0, q1, -, -⟩ := hT9.out.snd; obtain ⟨s0, s1, -, -⟩ := hT9.out.res)
          | (go_at_call 7; have _t := tok5; refine (C5.out _ hT9.out).mono ?_; rintro e w10 ⟨r4, rfl, hr4, hb10⟩; have HR4 := hide hr4; replace HR3 := hide (HR3.out.below hb10 (Nat.le_refl _)); have hT10 := hide (hT9.out.later hb10); clear hb10 tok5 hr4; obtain ⟨p0, p1, -, -⟩ := hT10.out.fst; obtain ⟨q0, q1, -, -⟩ := hT10.out.snd; obtain ⟨s0, s1, -, -⟩ := hT10.out.res)
          | (go_at_call 4; have _t := tok6; refine (compare_any _ _ _ _ _ 13 13 HR3.out HR4.out).mono ?_; rintro e w11 ⟨rfl, hb11⟩; rw [HS.out]; have hT11 := hide (hT10.out.later hb11); clear hb11 tok6; obtain ⟨p0, p1, -, -⟩ := hT11.out.fst; obtain ⟨q0, q1, -, -⟩ := hT11.out.snd; obtain ⟨s0, s1, -, -⟩ := hT11.out.res))
        go_wp2_with fail
        go_meet
        case rel => exact ⟨rfl, hT11.out⟩
      · have e1 : decide (k ≤ 0) = true := decide_eq_true h1
        have e2 : decide (k1 ≤ 0) = false := decide_eq_false h2
        clear htr tok1 tok2 tok3 tok4 tok5 tok6
        refine wp_region_held_drew (S := (fun w' => w'.cell? ⟨w.heap.size, 0, none⟩ = some (.bool an) ∧ w'.cell? ⟨w.heap.size, 1, none⟩ = some (.slice ao za.length acap) ∧ w'.cell? ⟨w.heap.size + 1, 0, none⟩ = some (.bool bn) ∧ w'.cell? ⟨w.heap.size + 1, 1, none⟩ = some (.slice bo zb.length bcap) ∧ w'.cell? ⟨w.heap.size + 1 + 1, 0, none⟩ = some (.bool cn) ∧ w'.cell? ⟨w.heap.size + 1 + 1, 1, none⟩ = some (.slice co zc.length ccap))) (by kernel_rfl) (by (try dsimp only); go_keep) (fun hHeld => ?_)
        refine held_run (v := ?_) 0 39 rfl rfl (by kernel_rfl) (by kernel_rfl) (by kernel_rfl) (fun _ _ _ h => h) (by rfl) ?_ (by assumption) ?_
        rotate_left
        · (intro w hSw; (try dsimp only at hSw); go_simp; with_reducible rfl)
        simp only [Act.put, List.setIfInBounds_toArray, List.set_cons_zero, List.set_cons_succ]
        refine held_run (v := ?_) 1 40 rfl rfl (by kernel_rfl) (by kernel_rfl) (by kernel_rfl) (fun _ _ _ h => h) (by rfl) ?_ (by assumption) ?_
        rotate_left
        · (intro w hSw; (try dsimp only at hSw); go_simp; with_reducible rfl)
        simp only [Act.put, List.setIfInBounds_toArray, List.set_cons_zero, List.set_cons_succ]
        refine held_run (v := ?_) 2 41 rfl rfl (by kernel_rfl) (by kernel_rfl) (by kernel_rfl) (fun _ _ _ h => h) (by rfl) ?_ (by assumption) ?_
        rotate_left
        · (intro w hSw; (try dsimp only at hSw); go_simp; with_reducible rfl)
        simp only [Act.put, List.setIfInBounds_toArray, List.set_cons_zero, List.set_cons_succ]
        refine wpAnyH_ready (rs := [3]) (by kernel_rfl) (by simp) (AllReadyH.cons (o := _) rfl (fun K hK => ?_) AllReadyH.nil)
        go_simp
        (refine (C1.out _ hT5.out.drew).mono ?_; rintro e w6 ⟨rfl, hb6⟩; have hT6 := hide (hT5.out.drew.later hb6); clear hb6; obtain ⟨p0, p1, -, -⟩ := hT6.out.fst; obtain ⟨q0, q1, -, -⟩ := hT6.out.snd; obtain ⟨s0, s1, -, -⟩ := hT6.out.res)
        go_wp2_with fail
        refine hK.out _ _ (by (try dsimp only); go_keep) (fun hHeld => ?_)
        clear hK K
        try simp only [Act.put, List.setIfInBounds_toArray, List.set_cons_zero, List.set_cons_succ]
        refine held_run (v := ?_) 4 43 rfl rfl (by kernel_rfl) (by kernel_rfl) (by kernel_rfl) (fun _ _ _ h => h) (by rfl) ?_ (by assumption) ?_
        rotate_left
        · (intro w hSw; (try dsimp only at hSw); go_simp; with_reducible rfl)
        simp only [Act.put, List.setIfInBounds_toArray, List.set_cons_zero, List.set_cons_succ]
        refine held_run (v := ?_) 5 44 rfl rfl (by kernel_rfl) (by kernel_rfl) (by kernel_rfl) (fun _ _ _ h => h) (by rfl) ?_ (by assumption) ?_
        rotate_left
        · (intro w hSw; (try dsimp only at hSw); go_simp; with_reducible rfl)
        simp only [Act.put, List.setIfInBounds_toArray, List.set_cons_zero, List.set_cons_succ]
        refine held_run (v := ?_) 6 45 rfl rfl (by kernel_rfl) (by kernel_rfl) (by kernel_rfl) (fun _ _ _ h => h) (by rfl) ?_ (by assumption) ?_
        rotate_left
        · (intro w hSw; (try dsimp only at hSw); go_simp; with_reducible rfl)
        simp only [Act.put, List.setIfInBounds_toArray, List.set_cons_zero, List.set_cons_succ]
        refine held_run (v := ?_) 7 46 rfl rfl (by kernel_rfl) (by kernel_rfl) (by kernel_rfl) (fun _ _ _ h => h) (by rfl) ?_ (by assumption) ?_
        rotate_left
        · (intro w hSw; (try dsimp only at hSw); go_simp; with_reducible rfl)
        simp only [Act.put, List.setIfInBounds_toArray, List.set_cons_zero, List.set_cons_succ]
        refine held_run (v := ?_) 8 47 rfl rfl (by kernel_rfl) (by kernel_rfl) (by kernel_rfl) (fun _ _ _ h => h) (by rfl) ?_ (by assumption) ?_
        rotate_left
        · (intro w hSw; (try dsimp only at hSw); go_simp; with_reducible rfl)
        simp only [Act.put, List.setIfInBounds_toArray, List.set_cons_zero, List.set_cons_succ]
        refine held_run (v := ?_) 9 48 rfl rfl (by kernel_rfl) (by kernel_rfl) (by kernel_rfl) (fun _ _ _ h => h) (by rfl) ?_ (by assumption) ?_
        rotate_left
        · (intro w hSw; (try dsimp only at hSw); go_simp; with_reducible rfl)
        simp only [Act.put, List.setIfInBounds_toArray, List.set_cons_zero, List.set_cons_succ]
        refine held_run (v := ?_) 10 49 rfl rfl (by kernel_rfl) (by kernel_rfl) (by kernel_rfl) (fun _ _ _ h => h) (by rfl) ?_ (by assumption) ?_
        rotate_left
        · (intro w hSw; (try dsimp only at hSw); go_simp; with_reducible rfl)
        simp only [Act.put, List.setIfInBounds_toArray, List.set_cons_zero, List.set_cons_succ]
        refine held_run (v := ?_) 11 50 rfl rfl (by kernel_rfl) (by kernel_rfl) (by kernel_rfl) (fun _ _ _ h => h) (by rfl) ?_ (by assumption) ?_
        rotate_left
        · (intro w hSw; (try dsimp only at hSw); go_simp; with_reducible rfl)
        simp only [Act.put, List.setIfInBounds_toArray, List.set_cons_zero, List.set_cons_succ]
        refine wpAnyH_ready (rs := [12]) (by kernel_rfl) (by simp) (AllReadyH.cons (o := _) rfl (fun K hK => ?_) AllReadyH.nil)
        go_simp
        (refine (C2.out _ hT6.out).mono ?_; rintro e w7 ⟨rfl, hb7⟩; have hT7 := hide (hT6.out.later hb7); clear hb7; obtain ⟨p0, p1, -, -⟩ := hT7.out.fst; obtain ⟨q0, q1, -, -⟩ := hT7.out.snd; obtain ⟨s0, s1, -, -⟩ := hT7.out.res)
        go_wp2_with fail
        refine hK.out _ _ (by (try dsimp only); go_keep) (fun hHeld => ?_)
        clear hK K
        try simp only [Act.put, List.setIfInBounds_toArray, List.set_cons_zero, List.set_cons_succ]
        refine held_run (v := ?_) 13 52 rfl rfl (by kernel_rfl) (by kernel_rfl) (by kernel_rfl) (fun _ _ _ h => h) (by rfl) ?_ (by assumption) ?_
        rotate_left
        · (intro w hSw; (try dsimp only at hSw); go_simp; with_reducible rfl)
        simp only [Act.put, List.setIfInBounds_toArray, List.set_cons_zero, List.set_cons_succ]
        refine held_run (v := ?_) 14 53 rfl rfl (by kernel_rfl) (by kernel_rfl) (by kernel_rfl) (fun _ _ _ h => h) (by rfl) ?_ (by assumption) ?_
        rotate_left
        · (intro w hSw; (try dsimp only at hSw); go_simp; with_reducible rfl)
        simp only [Act.put, List.setIfInBounds_toArray, List.set_cons_zero, List.set_cons_succ]
        refine held_run (v := ?_) 15 54 rfl rfl (by kernel_rfl) (by kernel_rfl) (by kernel_rfl) (fun _ _ _ h => h) (by rfl) ?_ (by assumption) ?_
        rotate_left
        · (intro w hSw; (try dsimp only at hSw); go_simp; with_reducible rfl)
        simp only [Act.put, List.setIfInBounds_toArray, List.set_cons_zero, List.set_cons_succ]
        refine held_skip 16 55 rfl rfl (by kernel_rfl) (by kernel_rfl) (by kernel_rfl) (fun _ _ _ h => h) (by rfl) (by assumption) ?_
        simp only [Act.put, List.setIfInBounds_toArray, List.set_cons_zero, List.set_cons_succ]
        refine held_skip 17 56 rfl rfl (by kernel_rfl) (by kernel_rfl) (by kernel_rfl) (fun _ _ _ h => h) (by rfl) (by assumption) ?_
        simp only [Act.put, List.setIfInBounds_toArray, List.set_cons_zero, List.set_cons_succ]
        refine held_skip 18 57 rfl rfl (by kernel_rfl) (by kernel_rfl) (by kernel_rfl) (fun _ _ _ h => h) (by rfl) (by assumption) ?_
        simp only [Act.put, List.setIfInBounds_toArray, List.set_cons_zero, List.set_cons_succ]
        refine held_skip 19 58 rfl rfl (by kernel_rfl) (by kernel_rfl) (by kernel_rfl) (fun _ _ _ h => h) (by rfl) (by assumption) ?_
        simp only [Act.put, List.setIfInBounds_toArray, List.set_cons_zero, List.set_cons_succ]
        refine held_run (v := ?_) 20 59 rfl rfl (by kernel_rfl) (by kernel_rfl) (by kernel_rfl) (fun _ _ _ h => h) (by rfl) ?_ (by assumption) ?_
        rotate_left
        · (intro w hSw; (try dsimp only at hSw); go_simp; with_reducible rfl)
        simp only [Act.put, List.setIfInBounds_toArray, List.set_cons_zero, List.set_cons_succ]
        refine held_run (v := ?_) 21 60 rfl rfl (by kernel_rfl) (by kernel_rfl) (by kernel_rfl) (fun _ _ _ h => h) (by rfl) ?_ (by assumption) ?_
        rotate_left
        · (intro w hSw; (try dsimp only at hSw); go_simp; with_reducible rfl)
        simp only [Act.put, List.setIfInBounds_toArray, List.set_cons_zero, List.set_cons_succ]
        refine held_run (v := ?_) 22 61 rfl rfl (by kernel_rfl) (by kernel_rfl) (by kernel_rfl) (fun _ _ _ h => h) (by rfl) ?_ (by assumption) ?_
        rotate_left
        · (intro w hSw; (try dsimp only at hSw); go_simp; with_reducible rfl)
        simp only [Act.put, List.setIfInBounds_toArray, List.set_cons_zero, List.set_cons_succ]
        refine held_run (v := ?_) 23 62 rfl rfl (by kernel_rfl) (by kernel_rfl) (by kernel_rfl) (fun _ _ _ h => h) (by rfl) ?_ (by assumption) ?_
        rotate_left
        · (intro w hSw; (try dsimp only at hSw); go_simp; with_reducible rfl)
        simp only [Act.put, List.setIfInBounds_toArray, List.set_cons_zero, List.set_cons_succ]
        refine held_run (v := ?_) 24 63 rfl rfl (by kernel_rfl) (by kernel_rfl) (by kernel_rfl) (fun _ _ _ h => h) (by rfl) ?_ (by assumption) ?_
        rotate_left
        · (intro w hSw; (try dsimp only at hSw); go_simp; with_reducible rfl)
        simp only [Act.put, List.setIfInBounds_toArray, List.set_cons_zero, List.set_cons_succ]
        refine held_run (v := ?_) 26 65 rfl rfl (by kernel_rfl) (by kernel_rfl) (by kernel_rfl) (fun _ _ _ h => h) (by rfl) ?_ (by assumption) ?_
        rotate_left
        · (intro w hSw; (try dsimp only at hSw); go_simp; with_reducible rfl)
        simp only [Act.put, List.setIfInBounds_toArray, List.set_cons_zero, List.set_cons_succ]
        refine held_run (v := ?_) 27 66 rfl rfl (by kernel_rfl) (by kernel_rfl) (by kernel_rfl) (fun _ _ _ h => h) (by rfl) ?_ (by assumption) ?_
        rotate_left
        · (intro w hSw; (try dsimp only at hSw); go_simp; with_reducible rfl)
        simp only [Act.put, List.setIfInBounds_toArray, List.set_cons_zero, List.set_cons_succ]
        refine held_run (v := ?_) 30 69 rfl rfl (by kernel_rfl) (by kernel_rfl) (by kernel_rfl) (fun _ _ _ h => h) (by rfl) ?_ (by assumption) ?_
        rotate_left
        · (intro w hSw; (try dsimp only at hSw); go_simp; with_reducible rfl)
        simp only [Act.put, List.setIfInBounds_toArray, List.set_cons_zero, List.set_cons_succ]
        refine wpAnyH_ready (rs := [25]) (by kernel_rfl) (by simp) (AllReadyH.cons (o := _) rfl (fun K hK => ?_) AllReadyH.nil)
        go_simp
        (refine (C4.out _ hT7.out).mono ?_; rintro e w8 ⟨r3, rfl, hr3, hb8⟩; have HR3 := hide hr3; have hT8 := hide (hT7.out.later hb8); clear hb8 hr3; obtain ⟨p0, p1, -, -⟩ := hT8.out.fst; obtain ⟨q0, q1, -, -⟩ := hT8.out.snd; obtain ⟨s0, s1, -, -⟩ := hT8.out.res)
        go_wp2_with fail
        refine hK.out _ _ (by (try dsimp only); go_keep) (fun hHeld => ?_)
        clear hK K
        try simp only [Act.put, List.setIfInBounds_toArray, List.set_cons_zero, List.set_cons_succ]
        refine wpAnyH_ready (rs := [28]) (by kernel_rfl) (by simp) (AllReadyH.cons (o := _) rfl (fun K hK => ?_) AllReadyH.nil)
        go_simp
        (refine (C5.out _ hT8.out).mono ?_; rintro e w9 ⟨r4, rfl, hr4, hb9⟩; have HR4 := hide hr4; replace HR3 := hide (HR3.out.below hb9 (Nat.le_refl _)); have hT9 := hide (hT8.out.later hb9); clear hb9 hr4; obtain ⟨p0, p1, -, -⟩ := hT9.out.fst; obtain ⟨q0, q1, -, -⟩ := hT9.out.snd; obtain ⟨s0, s1, -, -⟩ := hT9.out.res)
        go_wp2_with fail
        refine hK.out _ _ (by (try dsimp only); go_keep) (fun hHeld => ?_)
        clear hK K
        try simp only [Act.put, List.setIfInBounds_toArray, List.set_cons_zero, List.set_cons_succ]
        refine wpAnyH_ready (rs := [29]) (by kernel_rfl) (by simp) (AllReadyH.cons (o := _) rfl (fun K hK => ?_) AllReadyH.nil)
        go_simp
        (refine (compare_any _ _ _ _ _ 13 13 HR3.out HR4.out).mono ?_; rintro e w10 ⟨rfl, hb10⟩; rw [HS.out]; have hT10 := hide (hT9.out.later hb10); clear hb10; obtain ⟨p0, p1, -, -⟩ := hT10.out.fst; obtain ⟨q0, q1, -, -⟩ := hT10.out.snd; obtain ⟨s0, s1, -, -⟩ := hT10.out.res)
        go_wp2_with fail
        refine hK.out _ _ (by (try dsimp only); go_keep) (fun hHeld => ?_)
        clear hK K
        try simp only [Act.put, List.setIfInBounds_toArray, List.set_cons_zero, List.set_cons_succ]
        refine held_run (v := ?_) 31 70 rfl rfl (by kernel_rfl) (by kernel_rfl) (by kernel_rfl) (fun _ _ _ h => h) (by rfl) ?_ (by assumption) ?_
        rotate_left
        · (intro w hSw; (try dsimp only at hSw); go_simp; with_reducible rfl)
        simp only [Act.put, List.setIfInBounds_toArray, List.set_cons_zero, List.set_cons_succ]
        refine held_run (v := ?_) 32 71 rfl rfl (by kernel_rfl) (by kernel_rfl) (by kernel_rfl) (fun _ _ _ h => h) (by rfl) ?_ (by assumption) ?_
        rotate_left
        · (intro w hSw; (try dsimp only at hSw); go_simp; with_reducible rfl)
        simp only [Act.put, List.setIfInBounds_toArray, List.set_cons_zero, List.set_cons_succ]
        refine wpAnyH_done (by kernel_rfl) ?_ _
        go_wp2_with fail
        go_meet
        case rel => exact ⟨rfl, hT10.out⟩
    · have e1 : decide (k ≤ 0) = false := decide_eq_false h1
      clear htr tok1 tok2 tok3 tok4 tok5 tok6
      refine wp_region_held_drew (S := (fun w' => w'.cell? ⟨w.heap.size, 0, none⟩ = some (.bool an) ∧ w'.cell? ⟨w.heap.size, 1, none⟩ = some (.slice ao za.length acap) ∧ w'.cell? ⟨w.heap.size + 1, 0, none⟩ = some (.bool bn) ∧ w'.cell? ⟨w.heap.size + 1, 1, none⟩ = some (.slice bo zb.length bcap) ∧ w'.cell? ⟨w.heap.size + 1 + 1, 0, none⟩ = some (.bool cn) ∧ w'.cell? ⟨w.heap.size + 1 + 1, 1, none⟩ = some (.slice co zc.length ccap))) (by kernel_rfl) (by (try dsimp only); go_keep) (fun hHeld => ?_)
      refine held_run (v := ?_) 0 39 rfl rfl (by kernel_rfl) (by kernel_rfl) (by kernel_rfl) (fun _ _ _ h => h) (by rfl) ?_ (by assumption) ?_
      rotate_left
      · (intro w hSw; (try dsimp only at hSw); go_simp; with_reducible rfl)
      simp only [Act.put, List.setIfInBounds_toArray, List.set_cons_zero, List.set_cons_succ]
      refine held_run (v := ?_) 1 40 rfl rfl (by kernel_rfl) (by kernel_rfl) (by kernel_rfl) (fun _ _ _ h => h) (by rfl) ?_ (by assumption) ?_
      rotate_left
      · (intro w hSw; (try dsimp only at hSw); go_simp; with_reducible rfl)
      simp only [Act.put, List.setIfInBounds_toArray, List.set_cons_zero, List.set_cons_succ]
      refine held_run (v := ?_) 2 41 rfl rfl (by kernel_rfl) (by kernel_rfl) (by kernel_rfl) (fun _ _ _ h => h) (by rfl) ?_ (by assumption) ?_
      rotate_left
      · (intro w hSw; (try dsimp only at hSw); go_simp; with_reducible rfl)
      simp only [Act.put, List.setIfInBounds_toArray, List.set_cons_zero, List.set_cons_succ]
      refine wpAnyH_ready (rs := [3]) (by kernel_rfl) (by simp) (AllReadyH.cons (o := _) rfl (fun K hK => ?_) AllReadyH.nil)
      go_simp
      (refine (C1.out _ hT5.out.drew).mono ?_; rintro e w6 ⟨rfl, hb6⟩; have hT6 := hide (hT5.out.drew.later hb6); clear hb6; obtain ⟨p0, p1, -, -⟩ := hT6.out.fst; obtain ⟨q0, q1, -, -⟩ := hT6.out.snd; obtain ⟨s0, s1, -, -⟩ := hT6.out.res)
      go_wp2_with fail
      refine hK.out _ _ (by (try dsimp only); go_keep) (fun hHeld => ?_)
      clear hK K
      try simp only [Act.put, List.setIfInBounds_toArray, List.set_cons_zero, List.set_cons_succ]
      refine held_run (v := ?_) 4 43 rfl rfl (by kernel_rfl) (by kernel_rfl) (by kernel_rfl) (fun _ _ _ h => h) (by rfl) ?_ (by assumption) ?_
      rotate_left
      · (intro w hSw; (try dsimp only at hSw); go_simp; with_reducible rfl)
      simp only [Act.put, List.setIfInBounds_toArray, List.set_cons_zero, List.set_cons_succ]
      refine held_run (v := ?_) 5 44 rfl rfl (by kernel_rfl) (by kernel_rfl) (by kernel_rfl) (fun _ _ _ h => h) (by rfl) ?_ (by assumption) ?_
      rotate_left
      · (intro w hSw; (try dsimp only at hSw); go_simp; with_reducible rfl)
      simp only [Act.put, List.setIfInBounds_toArray, List.set_cons_zero, List.set_cons_succ]
      refine held_run (v := ?_) 6 45 rfl rfl (by kernel_rfl) (by kernel_rfl) (by kernel_rfl) (fun _ _ _ h => h) (by rfl) ?_ (by assumption) ?_
      rotate_left
      · (intro w hSw; (try dsimp only at hSw); go_simp; with_reducible rfl)
      simp only [Act.put, List.setIfInBounds_toArray, List.set_cons_zero, List.set_cons_succ]
      refine held_run (v := ?_) 7 46 rfl rfl (by kernel_rfl) (by kernel_rfl) (by kernel_rfl) (fun _ _ _ h => h) (by rfl) ?_ (by assumption) ?_
      rotate_left
      · (intro w hSw; (try dsimp only at hSw); go_simp; with_reducible rfl)
      simp only [Act.put, List.setIfInBounds_toArray, List.set_cons_zero, List.set_cons_succ]
      refine held_run (v := ?_) 8 47 rfl rfl (by kernel_rfl) (by kernel_rfl) (by kernel_rfl) (fun _ _ _ h => h) (by rfl) ?_ (by assumption) ?_
      rotate_left
      · (intro w hSw; (try dsimp only at hSw); go_simp; with_reducible rfl)
      simp only [Act.put, List.setIfInBounds_toArray, List.set_cons_zero, List.set_cons_succ]
      refine held_run (v := ?_) 9 48 rfl rfl (by kernel_rfl) (by kernel_rfl) (by kernel_rfl) (fun _ _ _ h => h) (by rfl) ?_ (by assumption) ?_
      rotate_left
      · (intro w hSw; (try dsimp only at hSw); go_simp; with_reducible rfl)
      simp only [Act.put, List.setIfInBounds_toArray, List.set_cons_zero, List.set_cons_succ]
      refine held_skip 10 49 rfl rfl (by kernel_rfl) (by kernel_rfl) (by kernel_rfl) (fun _ _ _ h => h) (by rfl) (by assumption) ?_
      simp only [Act.put, List.setIfInBounds_toArray, List.set_cons_zero, List.set_cons_succ]
      refine held_skip 11 50 rfl rfl (by kernel_rfl) (by kernel_rfl) (by kernel_rfl) (fun _ _ _ h => h) (by rfl) (by assumption) ?_
      simp only [Act.put, List.setIfInBounds_toArray, List.set_cons_zero, List.set_cons_succ]
      refine held_skip 12 51 rfl rfl (by kernel_rfl) (by kernel_rfl) (by kernel_rfl) (fun _ _ _ h => h) (by rfl) (by assumption) ?_
      simp only [Act.put, List.setIfInBounds_toArray, List.set_cons_zero, List.set_cons_succ]
      refine held_skip 13 52 rfl rfl (by kernel_rfl) (by kernel_rfl) (by kernel_rfl) (fun _ _ _ h => h) (by rfl) (by assumption) ?_
      simp only [Act.put, List.setIfInBounds_toArray, List.set_cons_zero, List.set_cons_succ]
      refine held_run (v := ?_) 14 53 rfl rfl (by kernel_rfl) (by kernel_rfl) (by kernel_rfl) (fun _ _ _ h => h) (by rfl) ?_ (by assumption) ?_
      rotate_left
      · (intro w hSw; (try dsimp only at hSw); go_simp; with_reducible rfl)
      simp only [Act.put, List.setIfInBounds_toArray, List.set_cons_zero, List.set_cons_succ]
      refine held_run (v := ?_) 15 54 rfl rfl (by kernel_rfl) (by kernel_rfl) (by kernel_rfl) (fun _ _ _ h => h) (by rfl) ?_ (by assumption) ?_
      rotate_left
      · (intro w hSw; (try dsimp only at hSw); go_simp; with_reducible rfl)
      simp only [Act.put, List.setIfInBounds_toArray, List.set_cons_zero, List.set_cons_succ]
      refine held_skip 16 55 rfl rfl (by kernel_rfl) (by kernel_rfl) (by kernel_rfl) (fun _ _ _ h => h) (by rfl) (by assumption) ?_
      simp only [Act.put, List.setIfInBounds_toArray, List.set_cons_zero, List.set_cons_succ]
      refine held_skip 17 56 rfl rfl (by kernel_rfl) (by kernel_rfl) (by kernel_rfl) (fun _ _ _ h => h) (by rfl) (by assumption) ?_
      simp only [Act.put, List.setIfInBounds_toArray, List.set_cons_zero, List.set_cons_succ]
      refine held_skip 18 57 rfl rfl (by kernel_rfl) (by kernel_rfl) (by kernel_rfl) (fun _ _ _ h => h) (by rfl) (by assumption) ?_
      simp only [Act.put, List.setIfInBounds_toArray, List.set_cons_zero, List.set_cons_succ]
      refine held_skip 19 58 rfl rfl (by kernel_rfl) (by kernel_rfl) (by kernel_rfl) (fun _ _ _ h => h) (by rfl) (by assumption) ?_
      simp only [Act.put, List.setIfInBounds_toArray, List.set_cons_zero, List.set_cons_succ]
      refine held_run (v := ?_) 20 59 rfl rfl (by kernel_rfl) (by kernel_rfl) (by kernel_rfl) (fun _ _ _ h => h) (by rfl) ?_ (by assumption) ?_
      rotate_left
      · (intro w hSw; (try dsimp only at hSw); go_simp; with_reducible rfl)
      simp only [Act.put, List.setIfInBounds_toArray, List.set_cons_zero, List.set_cons_succ]
      refine held_run (v := ?_) 21 60 rfl rfl (by kernel_rfl) (by kernel_rfl) (by kernel_rfl) (fun _ _ _ h => h) (by rfl) ?_ (by assumption) ?_
      rotate_left
      · (intro w hSw; (try dsimp only at hSw); go_simp; with_reducible rfl)
      simp only [Act.put, List.setIfInBounds_toArray, List.set_cons_zero, List.set_cons_succ]
      refine held_run (v := ?_) 22 61 rfl rfl (by kernel_rfl) (by kernel_rfl) (by kernel_rfl) (fun _ _ _ h => h) (by rfl) ?_ (by assumption) ?_
      rotate_left
      · (intro w hSw; (try dsimp only at hSw); go_simp; with_reducible rfl)
      simp only [Act.put, List.setIfInBounds_toArray, List.set_cons_zero, List.set_cons_succ]
      refine held_run (v := ?_) 23 62 rfl rfl (by kernel_rfl) (by kernel_rfl) (by kernel_rfl) (fun _ _ _ h => h) (by rfl) ?_ (by assumption) ?_
      rotate_left
      · (intro w hSw; (try dsimp only at hSw); go_simp; with_reducible rfl)
      simp only [Act.put, List.setIfInBounds_toArray, List.set_cons_zero, List.set_cons_succ]
      refine held_run (v := ?_) 24 63 rfl rfl (by kernel_rfl) (by kernel_rfl) (by kernel_rfl) (fun _ _ _ h => h) (by rfl) ?_ (by assumption) ?_
      rotate_left
      · (intro w hSw; (try dsimp only at hSw); go_simp; with_reducible rfl)
      simp only [Act.put, List.setIfInBounds_toArray, List.set_cons_zero, List.set_cons_succ]
      refine held_run (v := ?_) 26 65 rfl rfl (by kernel_rfl) (by kernel_rfl) (by kernel_rfl) (fun _ _ _ h => h) (by rfl) ?_ (by assumption) ?_
      rotate_left
      · (intro w hSw; (try dsimp only at hSw); go_simp; with_reducible rfl)
      simp only [Act.put, List.setIfInBounds_toArray, List.set_cons_zero, List.set_cons_succ]
      refine held_run (v := ?_) 27 66 rfl rfl (by kernel_rfl) (by kernel_rfl) (by kernel_rfl) (fun _ _ _ h => h) (by rfl) ?_ (by assumption) ?_
      rotate_left
      · (intro w hSw; (try dsimp only at hSw); go_simp; with_reducible rfl)
      simp only [Act.put, List.setIfInBounds_toArray, List.set_cons_zero, List.set_cons_succ]
      refine held_run (v := ?_) 30 69 rfl rfl (by kernel_rfl) (by kernel_rfl) (by kernel_rfl) (fun _ _ _ h => h) (by rfl) ?_ (by assumption) ?_
      rotate_left
      · (intro w hSw; (try dsimp only at hSw); go_simp; with_reducible rfl)
      simp only [Act.put, List.setIfInBounds_toArray, List.set_cons_zero, List.set_cons_succ]
      refine wpAnyH_ready (rs := [25]) (by kernel_rfl) (by simp) (AllReadyH.cons (o := _) rfl (fun K hK => ?_) AllReadyH.nil)
      go_simp
      (refine (C4.out _ hT6.out).mono ?_; rintro e w7 ⟨r3, rfl, hr3, hb7⟩; have HR3 := hide hr3; have hT7 := hide (hT6.out.later hb7); clear hb7 hr3; obtain ⟨p0, p1, -, -⟩ := hT7.out.fst; obtain ⟨q0, q1, -, -⟩ := hT7.out.snd; obtain ⟨s0, s1, -, -⟩ := hT7.out.res)
      go_wp2_with fail
      refine hK.out _ _ (by (try dsimp only); go_keep) (fun hHeld => ?_)
      clear hK K
      try simp only [Act.put, List.setIfInBounds_toArray, List.set_cons_zero, List.set_cons_succ]
      refine wpAnyH_ready (rs := [28]) (by kernel_rfl) (by simp) (AllReadyH.cons (o := _) rfl (fun K hK => ?_) AllReadyH.nil)
      go_simp
      (refine (C5.out _ hT7.out).mono ?_; rintro e w8 ⟨r4, rfl, hr4, hb8⟩; have HR4 := hide hr4; replace HR3 := hide (HR3.out.below hb8 (Nat.le_refl _)); have hT8 := hide (hT7.out.later hb8); clear hb8 hr4; obtain ⟨p0, p1, -, -⟩ := hT8.out.fst; obtain ⟨q0, q1, -, -⟩ := hT8.out.snd; obtain ⟨s0, s1, -, -⟩ := hT8.out.res)
      go_wp2_with fail
      refine hK.out _ _ (by (try dsimp only); go_keep) (fun hHeld => ?_)
      clear hK K
      try simp only [Act.put, List.setIfInBounds_toArray, List.set_cons_zero, List.set_cons_succ]
      refine wpAnyH_ready (rs := [29]) (by kernel_rfl) (by simp) (AllReadyH.cons (o := _) rfl (fun K hK => ?_) AllReadyH.nil)
      go_simp
      (refine (compare_any _ _ _ _ _ 13 13 HR3.out HR4.out).mono ?_; rintro e w9 ⟨rfl, hb9⟩; rw [HS.out]; have hT9 := hide (hT8.out.later hb9); clear hb9; obtain ⟨p0, p1, -, -⟩ := hT9.out.fst; obtain ⟨q0, q1, -, -⟩ := hT9.out.snd; obtain ⟨s0, s1, -, -⟩ := hT9.out.res)
      go_wp2_with fail
      refine hK.out _ _ (by (try dsimp only); go_keep) (fun hHeld => ?_)
      clear hK K
      try simp only [Act.put, List.setIfInBounds_toArray, List.set_cons_zero, List.set_cons_succ]
      refine held_run (v := ?_) 31 70 rfl rfl (by kernel_rfl) (by kernel_rfl) (by kernel_rfl) (fun _ _ _ h => h) (by rfl) ?_ (by assumption) ?_
      rotate_left
      · (intro w hSw; (try dsimp only at hSw); go_simp; with_reducible rfl)
      simp only [Act.put, List.setIfInBounds_toArray, List.set_cons_zero, List.set_cons_succ]
      refine held_run (v := ?_) 32 71 rfl rfl (by kernel_rfl) (by kernel_rfl) (by kernel_rfl) (fun _ _ _ h => h) (by rfl) ?_ (by assumption) ?_
      rotate_left
      · (intro w hSw; (try dsimp only at hSw); go_simp; with_reducible rfl)
      simp only [Act.put, List.setIfInBounds_toArray, List.set_cons_zero, List.set_cons_succ]
      refine wpAnyH_done (by kernel_rfl) ?_ _
      go_wp2_with fail
      go_meet
      case rel => exact ⟨rfl, hT9.out⟩
  case rest =>
    obtain ⟨rfl, hT6⟩ := hcut
    replace hT6 := hide hT6
    clear hT5 C1 C2 C3 C4 C5 HS htr
    clear p0 p1 q0 q1 s0 s1
    obtain ⟨p0, p1, -, -⟩ := hT6.out.fst; obtain ⟨q0, q1, -, -⟩ := hT6.out.snd; obtain ⟨s0, s1, -, -⟩ := hT6.out.res
    have CZ := hide (fun W (h : Three w W (.bool an) (.slice ao za.length acap) (.bool bn) (.slice bo zb.length bcap) (.bool cn) (.slice co zc.length ccap)) => zero_any W _ _ 12 (NC.out.below h.below (Nat.le_refl _)))
    have C6 := hide (fun W (h : Three w W (.bool an) (.slice ao za.length acap) (.bool bn) (.slice bo zb.length bcap) (.bool cn) (.slice co zc.length ccap)) => mul_any W _ _ _ _ 12 12 (NA.out.below h.below (Nat.le_refl _)) (NC.out.below h.below (Nat.le_refl _)) (by decide) (by decide))
    have C7 := hide (fun W (h : Three w W (.bool an) (.slice ao za.length acap) (.bool bn) (.slice bo zb.length bcap) (.bool cn) (.slice co zc.length ccap)) => mul_any W _ _ _ _ 12 12 (NB.out.below h.below (Nat.le_refl _)) (NC.out.below h.below (Nat.le_refl _)) (by decide) (by decide))
    by_cases hz0 : z = 0
    · have DZ := hide (decide_eq_true hz0)
      clear hz hz0
      go_wp2_with fail
      refine wp_region_held_drew (S := (fun w' => w'.cell? ⟨w.heap.size, 0, none⟩ = some (.bool an) ∧ w'.cell? ⟨w.heap.size, 1, none⟩ = some (.slice ao za.length acap) ∧ w'.cell? ⟨w.heap.size + 1, 0, none⟩ = some (.bool bn) ∧ w'.cell? ⟨w.heap.size + 1, 1, none⟩ = some (.slice bo zb.length bcap) ∧ w'.cell? ⟨w.heap.size + 1 + 1, 0, none⟩ = some (.bool cn) ∧ w'.cell? ⟨w.heap.size + 1 + 1, 1, none⟩ = some (.slice co zc.length ccap))) (by kernel_rfl) (by (try dsimp only); go_keep) (fun hHeld => ?_)
      refine held_run (v := ?_) 0 72 rfl rfl (by kernel_rfl) (by kernel_rfl) (by kernel_rfl) (fun _ _ _ h => h) (by rfl) ?_ (by assumption) ?_
      rotate_left
      · (intro w hSw; (try dsimp only at hSw); go_simp; with_reducible rfl)
      simp only [Act.put, List.setIfInBounds_toArray, List.set_cons_zero, List.set_cons_succ]
      refine wpAnyH_ready (rs := [1]) (by kernel_rfl) (by simp) (AllReadyH.cons (o := _) rfl (fun K hK => ?_) AllReadyH.nil)
      go_simp
      (refine (CZ.out _ hT6.out.drew).mono ?_; rintro e w7 ⟨rfl, hb7⟩; rw [DZ.out]; have hT7 := hide (hT6.out.drew.later hb7); clear hb7; obtain ⟨p0, p1, -, -⟩ := hT7.out.fst; obtain ⟨q0, q1, -, -⟩ := hT7.out.snd; obtain ⟨s0, s1, -, -⟩ := hT7.out.res)
      go_wp2_with fail
      refine hK.out _ _ (by (try dsimp only); go_keep) (fun hHeld => ?_)
      clear hK K
      try simp only [Act.put, List.setIfInBounds_toArray, List.set_cons_zero, List.set_cons_succ]
      refine held_run (v := ?_) 2 74 rfl rfl (by kernel_rfl) (by kernel_rfl) (by kernel_rfl) (fun _ _ _ h => h) (by rfl) ?_ (by assumption) ?_
      rotate_left
      · (intro w hSw; (try dsimp only at hSw); go_simp; with_reducible rfl)
      simp only [Act.put, List.setIfInBounds_toArray, List.set_cons_zero, List.set_cons_succ]
      refine held_skip 3 75 rfl rfl (by kernel_rfl) (by kernel_rfl) (by kernel_rfl) (fun _ _ _ h => h) (by rfl) (by assumption) ?_
      simp only [Act.put, List.setIfInBounds_toArray, List.set_cons_zero, List.set_cons_succ]
      refine held_skip 4 76 rfl rfl (by kernel_rfl) (by kernel_rfl) (by kernel_rfl) (fun _ _ _ h => h) (by rfl) (by assumption) ?_
      simp only [Act.put, List.setIfInBounds_toArray, List.set_cons_zero, List.set_cons_succ]
      refine held_run (v := ?_) 5 77 rfl rfl (by kernel_rfl) (by kernel_rfl) (by kernel_rfl) (fun _ _ _ h => h) (by rfl) ?_ (by assumption) ?_
      rotate_left
      · (intro w hSw; (try dsimp only at hSw); go_simp; with_reducible rfl)
      simp only [Act.put, List.setIfInBounds_toArray, List.set_cons_zero, List.set_cons_succ]
      refine held_run (v := ?_) 6 78 rfl rfl (by kernel_rfl) (by kernel_rfl) (by kernel_rfl) (fun _ _ _ h => h) (by rfl) ?_ (by assumption) ?_
      rotate_left
      · (intro w hSw; (try dsimp only at hSw); go_simp; with_reducible rfl)
      simp only [Act.put, List.setIfInBounds_toArray, List.set_cons_zero, List.set_cons_succ]
      refine held_skip 7 79 rfl rfl (by kernel_rfl) (by kernel_rfl) (by kernel_rfl) (fun _ _ _ h => h) (by rfl) (by assumption) ?_
      simp only [Act.put, List.setIfInBounds_toArray, List.set_cons_zero, List.set_cons_succ]
      refine held_skip 8 80 rfl rfl (by kernel_rfl) (by kernel_rfl) (by kernel_rfl) (fun _ _ _ h => h) (by rfl) (by assumption) ?_
      simp only [Act.put, List.setIfInBounds_toArray, List.set_cons_zero, List.set_cons_succ]
      refine held_skip 9 81 rfl rfl (by kernel_rfl) (by kernel_rfl) (by kernel_rfl) (fun _ _ _ h => h) (by rfl) (by assumption) ?_
      simp only [Act.put, List.setIfInBounds_toArray, List.set_cons_zero, List.set_cons_succ]
      refine held_skip 10 82 rfl rfl (by kernel_rfl) (by kernel_rfl) (by kernel_rfl) (fun _ _ _ h => h) (by rfl) (by assumption) ?_
      simp only [Act.put, List.setIfInBounds_toArray, List.set_cons_zero, List.set_cons_succ]
      refine held_skip 11 83 rfl rfl (by kernel_rfl) (by kernel_rfl) (by kernel_rfl) (fun _ _ _ h => h) (by rfl) (by assumption) ?_
      simp only [Act.put, List.setIfInBounds_toArray, List.set_cons_zero, List.set_cons_succ]
      refine held_skip 12 84 rfl rfl (by kernel_rfl) (by kernel_rfl) (by kernel_rfl) (fun _ _ _ h => h) (by rfl) (by assumption) ?_
      simp only [Act.put, List.setIfInBounds_toArray, List.set_cons_zero, List.set_cons_succ]
      refine held_skip 13 85 rfl rfl (by kernel_rfl) (by kernel_rfl) (by kernel_rfl) (fun _ _ _ h => h) (by rfl) (by assumption) ?_
      simp only [Act.put, List.setIfInBounds_toArray, List.set_cons_zero, List.set_cons_succ]
      refine held_skip 14 86 rfl rfl (by kernel_rfl) (by kernel_rfl) (by kernel_rfl) (fun _ _ _ h => h) (by rfl) (by assumption) ?_
      simp only [Act.put, List.setIfInBounds_toArray, List.set_cons_zero, List.set_cons_succ]
      refine held_skip 15 87 rfl rfl (by kernel_rfl) (by kernel_rfl) (by kernel_rfl) (fun _ _ _ h => h) (by rfl) (by assumption) ?_
      simp only [Act.put, List.setIfInBounds_toArray, List.set_cons_zero, List.set_cons_succ]
      refine held_run (v := ?_) 16 88 rfl rfl (by kernel_rfl) (by kernel_rfl) (by kernel_rfl) (fun _ _ _ h => h) (by rfl) ?_ (by assumption) ?_
      rotate_left
      · (intro w hSw; (try dsimp only at hSw); go_simp; with_reducible rfl)
      simp only [Act.put, List.setIfInBounds_toArray, List.set_cons_zero, List.set_cons_succ]
      refine held_run (v := ?_) 17 6 rfl rfl (by kernel_rfl) (by kernel_rfl) (by kernel_rfl) (fun _ _ _ h => h) (by rfl) ?_ (by assumption) ?_
      rotate_left
      · (intro w hSw; (try dsimp only at hSw); go_simp; with_reducible rfl)
      simp only [Act.put, List.setIfInBounds_toArray, List.set_cons_zero, List.set_cons_succ]
      refine wpAnyH_done (by kernel_rfl) ?_ _
      go_wp2
      go_ret
      exact ⟨rfl, hT7.out.below⟩
    · have DZ := hide (decide_eq_false hz0)
      cases cn
      · have HM2 := hide (HM.out (by
          have hn : 0 ≤ lv zc := by exact HZ0.out
          rw [← hz] at hz0 ⊢; unfold sg at *; simp at hz0 ⊢; omega))
        clear hz hz0
        go_wp2_with fail
        refine wp_region_held_drew (S := (fun w' => w'.cell? ⟨w.heap.size, 0, none⟩ = some (.bool an) ∧ w'.cell? ⟨w.heap.size, 1, none⟩ = some (.slice ao za.length acap) ∧ w'.cell? ⟨w.heap.size + 1, 0, none⟩ = some (.bool bn) ∧ w'.cell? ⟨w.heap.size + 1, 1, none⟩ = some (.slice bo zb.length bcap) ∧ w'.cell? ⟨w.heap.size + 1 + 1, 0, none⟩ = some (.bool false) ∧ w'.cell? ⟨w.heap.size + 1 + 1, 1, none⟩ = some (.slice co zc.length ccap))) (by kernel_rfl) (by (try dsimp only); go_keep) (fun hHeld => ?_)
        refine held_run (v := ?_) 0 72 rfl rfl (by kernel_rfl) (by kernel_rfl) (by kernel_rfl) (fun _ _ _ h => h) (by rfl) ?_ (by assumption) ?_
        rotate_left
        · (intro w hSw; (try dsimp only at hSw); go_simp; with_reducible rfl)
        simp only [Act.put, List.setIfInBounds_toArray, List.set_cons_zero, List.set_cons_succ]
        refine wpAnyH_ready (rs := [1]) (by kernel_rfl) (by simp) (AllReadyH.cons (o := _) rfl (fun K hK => ?_) AllReadyH.nil)
        go_simp
        (refine (CZ.out _ hT6.out.drew).mono ?_; rintro e w7 ⟨rfl, hb7⟩; rw [DZ.out]; have hT7 := hide (hT6.out.drew.later hb7); clear hb7; obtain ⟨p0, p1, -, -⟩ := hT7.out.fst; obtain ⟨q0, q1, -, -⟩ := hT7.out.snd; obtain ⟨s0, s1, -, -⟩ := hT7.out.res)
        go_wp2_with fail
        refine hK.out _ _ (by (try dsimp only); go_keep) (fun hHeld => ?_)
        clear hK K
        try simp only [Act.put, List.setIfInBounds_toArray, List.set_cons_zero, List.set_cons_succ]
        refine held_run (v := ?_) 2 74 rfl rfl (by kernel_rfl) (by kernel_rfl) (by kernel_rfl) (fun _ _ _ h => h) (by rfl) ?_ (by assumption) ?_
        rotate_left
        · (intro w hSw; (try dsimp only at hSw); go_simp; with_reducible rfl)
        simp only [Act.put, List.setIfInBounds_toArray, List.set_cons_zero, List.set_cons_succ]
        refine held_run (v := ?_) 3 75 rfl rfl (by kernel_rfl) (by kernel_rfl) (by kernel_rfl) (fun _ _ _ h => h) (by rfl) ?_ (by assumption) ?_
        rotate_left
        · (intro w hSw; (try dsimp only at hSw); go_simp; with_reducible rfl)
        simp only [Act.put, List.setIfInBounds_toArray, List.set_cons_zero, List.set_cons_succ]
        refine held_run (v := ?_) 4 76 rfl rfl (by kernel_rfl) (by kernel_rfl) (by kernel_rfl) (fun _ _ _ h => h) (by rfl) ?_ (by assumption) ?_
        rotate_left
        · (intro w hSw; (try dsimp only at hSw); go_simp; with_reducible rfl)
        simp only [Act.put, List.setIfInBounds_toArray, List.set_cons_zero, List.set_cons_succ]
        refine held_run (v := ?_) 5 77 rfl rfl (by kernel_rfl) (by kernel_rfl) (by kernel_rfl) (fun _ _ _ h => h) (by rfl) ?_ (by assumption) ?_
        rotate_left
        · (intro w hSw; (try dsimp only at hSw); go_simp; with_reducible rfl)
        simp only [Act.put, List.setIfInBounds_toArray, List.set_cons_zero, List.set_cons_succ]
        refine held_run (v := ?_) 6 78 rfl rfl (by kernel_rfl) (by kernel_rfl) (by kernel_rfl) (fun _ _ _ h => h) (by rfl) ?_ (by assumption) ?_
        rotate_left
        · (intro w hSw; (try dsimp only at hSw); go_simp; with_reducible rfl)
        simp only [Act.put, List.setIfInBounds_toArray, List.set_cons_zero, List.set_cons_succ]
        refine held_run (v := ?_) 7 79 rfl rfl (by kernel_rfl) (by kernel_rfl) (by kernel_rfl) (fun _ _ _ h => h) (by rfl) ?_ (by assumption) ?_
        rotate_left
        · (intro w hSw; (try dsimp only at hSw); go_simp; with_reducible rfl)
        simp only [Act.put, List.setIfInBounds_toArray, List.set_cons_zero, List.set_cons_succ]
        refine held_run (v := ?_) 8 80 rfl rfl (by kernel_rfl) (by kernel_rfl) (by kernel_rfl) (fun _ _ _ h => h) (by rfl) ?_ (by assumption) ?_
        rotate_left
        · (intro w hSw; (try dsimp only at hSw); go_simp; with_reducible rfl)
        simp only [Act.put, List.setIfInBounds_toArray, List.set_cons_zero, List.set_cons_succ]
        refine held_run (v := ?_) 10 82 rfl rfl (by kernel_rfl) (by kernel_rfl) (by kernel_rfl) (fun _ _ _ h => h) (by rfl) ?_ (by assumption) ?_
        rotate_left
        · (intro w hSw; (try dsimp only at hSw); go_simp; with_reducible rfl)
        simp only [Act.put, List.setIfInBounds_toArray, List.set_cons_zero, List.set_cons_succ]
        refine held_run (v := ?_) 11 83 rfl rfl (by kernel_rfl) (by kernel_rfl) (by kernel_rfl) (fun _ _ _ h => h) (by rfl) ?_ (by assumption) ?_
        rotate_left
        · (intro w hSw; (try dsimp only at hSw); go_simp; with_reducible rfl)
        simp only [Act.put, List.setIfInBounds_toArray, List.set_cons_zero, List.set_cons_succ]
        refine held_run (v := ?_) 14 86 rfl rfl (by kernel_rfl) (by kernel_rfl) (by kernel_rfl) (fun _ _ _ h => h) (by rfl) ?_ (by assumption) ?_
        rotate_left
        · (intro w hSw; (try dsimp only at hSw); go_simp; with_reducible rfl)
        simp only [Act.put, List.setIfInBounds_toArray, List.set_cons_zero, List.set_cons_succ]
        refine wpAnyH_ready (rs := [9]) (by kernel_rfl) (by simp) (AllReadyH.cons (o := _) rfl (fun K hK => ?_) AllReadyH.nil)
        go_simp
        (refine (C6.out _ hT7.out).mono ?_; rintro e w8 ⟨r3, rfl, hr3, hb8⟩; have HR3 := hide hr3; have hT8 := hide (hT7.out.later hb8); clear hb8 hr3; obtain ⟨p0, p1, -, -⟩ := hT8.out.fst; obtain ⟨q0, q1, -, -⟩ := hT8.out.snd; obtain ⟨s0, s1, -, -⟩ := hT8.out.res)
        go_wp2_with fail
        refine hK.out _ _ (by (try dsimp only); go_keep) (fun hHeld => ?_)
        clear hK K
        try simp only [Act.put, List.setIfInBounds_toArray, List.set_cons_zero, List.set_cons_succ]
        refine wpAnyH_ready (rs := [12]) (by kernel_rfl) (by simp) (AllReadyH.cons (o := _) rfl (fun K hK => ?_) AllReadyH.nil)
        go_simp
        (refine (C7.out _ hT8.out).mono ?_; rintro e w9 ⟨r4, rfl, hr4, hb9⟩; have HR4 := hide hr4; replace HR3 := hide (HR3.out.below hb9 (Nat.le_refl _)); have hT9 := hide (hT8.out.later hb9); clear hb9 hr4; obtain ⟨p0, p1, -, -⟩ := hT9.out.fst; obtain ⟨q0, q1, -, -⟩ := hT9.out.snd; obtain ⟨s0, s1, -, -⟩ := hT9.out.res)
        go_wp2_with fail
        refine hK.out _ _ (by (try dsimp only); go_keep) (fun hHeld => ?_)
        clear hK K
        try simp only [Act.put, List.setIfInBounds_toArray, List.set_cons_zero, List.set_cons_succ]
        refine wpAnyH_ready (rs := [13]) (by kernel_rfl) (by simp) (AllReadyH.cons (o := _) rfl (fun K hK => ?_) AllReadyH.nil)
        go_simp
        (refine (compare_any _ _ _ _ _ 24 24 HR3.out HR4.out).mono ?_; rintro e w10 ⟨rfl, hb10⟩; rw [HM2.out]; have hT10 := hide (hT9.out.later hb10); clear hb10; obtain ⟨p0, p1, -, -⟩ := hT10.out.fst; obtain ⟨q0, q1, -, -⟩ := hT10.out.snd; obtain ⟨s0, s1, -, -⟩ := hT10.out.res)
        go_wp2_with fail
        refine hK.out _ _ (by (try dsimp only); go_keep) (fun hHeld => ?_)
        clear hK K
        try simp only [Act.put, List.setIfInBounds_toArray, List.set_cons_zero, List.set_cons_succ]
        refine held_run (v := ?_) 15 87 rfl rfl (by kernel_rfl) (by kernel_rfl) (by kernel_rfl) (fun _ _ _ h => h) (by rfl) ?_ (by assumption) ?_
        rotate_left
        · (intro w hSw; (try dsimp only at hSw); go_simp; with_reducible rfl)
        simp only [Act.put, List.setIfInBounds_toArray, List.set_cons_zero, List.set_cons_succ]
        refine held_run (v := ?_) 16 88 rfl rfl (by kernel_rfl) (by kernel_rfl) (by kernel_rfl) (fun _ _ _ h => h) (by rfl) ?_ (by assumption) ?_
        rotate_left
        · (intro w hSw; (try dsimp only at hSw); go_simp; with_reducible rfl)
        simp only [Act.put, List.setIfInBounds_toArray, List.set_cons_zero, List.set_cons_succ]
        refine held_run (v := ?_) 17 6 rfl rfl (by kernel_rfl) (by kernel_rfl) (by kernel_rfl) (fun _ _ _ h => h) (by rfl) ?_ (by assumption) ?_
        rotate_left
        · (intro w hSw; (try dsimp only at hSw); go_simp; with_reducible rfl)
        simp only [Act.put, List.setIfInBounds_toArray, List.set_cons_zero, List.set_cons_succ]
        refine wpAnyH_done (by kernel_rfl) ?_ _
        go_wp2
        go_ret
        exact ⟨rfl, hT10.out.below⟩
      · clear hz hz0
        go_wp2_with fail
        refine wp_region_held_drew (S := (fun w' => w'.cell? ⟨w.heap.size, 0, none⟩ = some (.bool an) ∧ w'.cell? ⟨w.heap.size, 1, none⟩ = some (.slice ao za.length acap) ∧ w'.cell? ⟨w.heap.size + 1, 0, none⟩ = some (.bool bn) ∧ w'.cell? ⟨w.heap.size + 1, 1, none⟩ = some (.slice bo zb.length bcap) ∧ w'.cell? ⟨w.heap.size + 1 + 1, 0, none⟩ = some (.bool true) ∧ w'.cell? ⟨w.heap.size + 1 + 1, 1, none⟩ = some (.slice co zc.length ccap))) (by kernel_rfl) (by (try dsimp only); go_keep) (fun hHeld => ?_)
        refine held_run (v := ?_) 0 72 rfl rfl (by kernel_rfl) (by kernel_rfl) (by kernel_rfl) (fun _ _ _ h => h) (by rfl) ?_ (by assumption) ?_
        rotate_left
        · (intro w hSw; (try dsimp only at hSw); go_simp; with_reducible rfl)
        simp only [Act.put, List.setIfInBounds_toArray, List.set_cons_zero, List.set_cons_succ]
        refine wpAnyH_ready (rs := [1]) (by kernel_rfl) (by simp) (AllReadyH.cons (o := _) rfl (fun K hK => ?_) AllReadyH.nil)
        go_simp
        (refine (CZ.out _ hT6.out.drew).mono ?_; rintro e w7 ⟨rfl, hb7⟩; rw [DZ.out]; have hT7 := hide (hT6.out.drew.later hb7); clear hb7; obtain ⟨p0, p1, -, -⟩ := hT7.out.fst; obtain ⟨q0, q1, -, -⟩ := hT7.out.snd; obtain ⟨s0, s1, -, -⟩ := hT7.out.res)
        go_wp2_with fail
        refine hK.out _ _ (by (try dsimp only); go_keep) (fun hHeld => ?_)
        clear hK K
        try simp only [Act.put, List.setIfInBounds_toArray, List.set_cons_zero, List.set_cons_succ]
        refine held_run (v := ?_) 2 74 rfl rfl (by kernel_rfl) (by kernel_rfl) (by kernel_rfl) (fun _ _ _ h => h) (by rfl) ?_ (by assumption) ?_
        rotate_left
        · (intro w hSw; (try dsimp only at hSw); go_simp; with_reducible rfl)
        simp only [Act.put, List.setIfInBounds_toArray, List.set_cons_zero, List.set_cons_succ]
        refine held_run (v := ?_) 3 75 rfl rfl (by kernel_rfl) (by kernel_rfl) (by kernel_rfl) (fun _ _ _ h => h) (by rfl) ?_ (by assumption) ?_
        rotate_left
        · (intro w hSw; (try dsimp only at hSw); go_simp; with_reducible rfl)
        simp only [Act.put, List.setIfInBounds_toArray, List.set_cons_zero, List.set_cons_succ]
        refine held_run (v := ?_) 4 76 rfl rfl (by kernel_rfl) (by kernel_rfl) (by kernel_rfl) (fun _ _ _ h => h) (by rfl) ?_ (by assumption) ?_
        rotate_left
        · (intro w hSw; (try dsimp only at hSw); go_simp; with_reducible rfl)
        simp only [Act.put, List.setIfInBounds_toArray, List.set_cons_zero, List.set_cons_succ]
        refine held_run (v := ?_) 5 77 rfl rfl (by kernel_rfl) (by kernel_rfl) (by kernel_rfl) (fun _ _ _ h => h) (by rfl) ?_ (by assumption) ?_
        rotate_left
        · (intro w hSw; (try dsimp only at hSw); go_simp; with_reducible rfl)
        simp only [Act.put, List.setIfInBounds_toArray, List.set_cons_zero, List.set_cons_succ]
        refine held_run (v := ?_) 6 78 rfl rfl (by kernel_rfl) (by kernel_rfl) (by kernel_rfl) (fun _ _ _ h => h) (by rfl) ?_ (by assumption) ?_
        rotate_left
        · (intro w hSw; (try dsimp only at hSw); go_simp; with_reducible rfl)
        simp only [Act.put, List.setIfInBounds_toArray, List.set_cons_zero, List.set_cons_succ]
        refine held_skip 7 79 rfl rfl (by kernel_rfl) (by kernel_rfl) (by kernel_rfl) (fun _ _ _ h => h) (by rfl) (by assumption) ?_
        simp only [Act.put, List.setIfInBounds_toArray, List.set_cons_zero, List.set_cons_succ]
        refine held_skip 8 80 rfl rfl (by kernel_rfl) (by kernel_rfl) (by kernel_rfl) (fun _ _ _ h => h) (by rfl) (by assumption) ?_
        simp only [Act.put, List.setIfInBounds_toArray, List.set_cons_zero, List.set_cons_succ]
        refine held_skip 9 81 rfl rfl (by kernel_rfl) (by kernel_rfl) (by kernel_rfl) (fun _ _ _ h => h) (by rfl) (by assumption) ?_
        simp only [Act.put, List.setIfInBounds_toArray, List.set_cons_zero, List.set_cons_succ]
        refine held_skip 10 82 rfl rfl (by kernel_rfl) (by kernel_rfl) (by kernel_rfl) (fun _ _ _ h => h) (by rfl) (by assumption) ?_
        simp only [Act.put, List.setIfInBounds_toArray, List.set_cons_zero, List.set_cons_succ]
        refine held_skip 11 83 rfl rfl (by kernel_rfl) (by kernel_rfl) (by kernel_rfl) (fun _ _ _ h => h) (by rfl) (by assumption) ?_
        simp only [Act.put, List.setIfInBounds_toArray, List.set_cons_zero, List.set_cons_succ]
        refine held_skip 12 84 rfl rfl (by kernel_rfl) (by kernel_rfl) (by kernel_rfl) (fun _ _ _ h => h) (by rfl) (by assumption) ?_
        simp only [Act.put, List.setIfInBounds_toArray, List.set_cons_zero, List.set_cons_succ]
        refine held_skip 13 85 rfl rfl (by kernel_rfl) (by kernel_rfl) (by kernel_rfl) (fun _ _ _ h => h) (by rfl) (by assumption) ?_
        simp only [Act.put, List.setIfInBounds_toArray, List.set_cons_zero, List.set_cons_succ]
        refine held_skip 14 86 rfl rfl (by kernel_rfl) (by kernel_rfl) (by kernel_rfl) (fun _ _ _ h => h) (by rfl) (by assumption) ?_
        simp only [Act.put, List.setIfInBounds_toArray, List.set_cons_zero, List.set_cons_succ]
        refine held_skip 15 87 rfl rfl (by kernel_rfl) (by kernel_rfl) (by kernel_rfl) (fun _ _ _ h => h) (by rfl) (by assumption) ?_
        simp only [Act.put, List.setIfInBounds_toArray, List.set_cons_zero, List.set_cons_succ]
        refine held_run (v := ?_) 16 88 rfl rfl (by kernel_rfl) (by kernel_rfl) (by kernel_rfl) (fun _ _ _ h => h) (by rfl) ?_ (by assumption) ?_
        rotate_left
        · (intro w hSw; (try dsimp only at hSw); go_simp; with_reducible rfl)
        simp only [Act.put, List.setIfInBounds_toArray, List.set_cons_zero, List.set_cons_succ]
        refine held_run (v := ?_) 17 6 rfl rfl (by kernel_rfl) (by kernel_rfl) (by kernel_rfl) (fun _ _ _ h => h) (by rfl) ?_ (by assumption) ?_
        rotate_left
        · (intro w hSw; (try dsimp only at hSw); go_simp; with_reducible rfl)
        simp only [Act.put, List.setIfInBounds_toArray, List.set_cons_zero, List.set_cons_succ]
        refine wpAnyH_done (by kernel_rfl) ?_ _
        go_wp2
        go_ret
        exact ⟨rfl, hT7.out.below⟩

end Go.Proofs.Ytkfgfodghnafgaa
