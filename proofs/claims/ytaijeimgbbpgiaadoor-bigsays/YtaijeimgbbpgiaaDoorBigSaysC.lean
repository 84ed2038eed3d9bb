/- BigSays: numbers that may be, not too great: all is said alike. -/
import Derived.Test.YtaijeimgbbpgiaaDoorBigSaysI
namespace Go.Proofs.YtaijeimgbbpgiaaDoor
open Go.RowKit Limbs Digs

set_option linter.unusedSimpArgs false in
set_option maxRecDepth 100000 in
set_option maxHeartbeats 6400000 in
theorem bigSays_in (w : World) (ht : Tab w) (an bn : Bool) (ao bo : Option Addr) (ac bc : Nat) (a b : List Int) (n : Int) (hn0 : -9223372036854775808 ≤ n) (hn1 : n ≤ 9223372036854775807) (ha : Lim w (.slice ao a.length ac) a) (hb : Lim w (.slice bo b.length bc) b) (la : a.length ≤ 12) (lb : b.length ≤ 12) (ga : isNum an a = true) (gb : isNum bn b = true) :
    Calls Tryd.prog 4 #[.agg #[.bool an, .slice ao a.length ac], .agg #[.bool bn, .slice bo b.length bc], .int .i64 n] w fun e w' => e = .returned (.bool true) ∧ Below w.heap.size w w' := by
  have HA := hide ha; have HB := hide hb
  obtain ⟨xa, hxa⟩ : ∃ x, NumL w (.agg #[.bool an, .slice ao a.length ac]) x 12 := ⟨_, NumL.of_isNum ga ha la⟩
  obtain ⟨xb, hxb⟩ : ∃ x, NumL w (.agg #[.bool bn, .slice bo b.length bc]) x 12 := ⟨_, NumL.of_isNum gb hb lb⟩
  have NA := hide hxa; have NB := hide hxb
  have HTB := hide ht
  clear ha hb hxa hxb
  have hc : decide (60 < (a.length : Int)) = false := decide_eq_false (by omega)
  have hc' : decide (60 < (b.length : Int)) = false := decide_eq_false (by omega)
  have hd : decide (a.length ≤ 12) = true := decide_eq_true la
  have hd' : decide (b.length ≤ 12) = true := decide_eq_true lb
  have HGA := hide ga; have HGB := hide gb
  clear ga gb
  have HT := hide ht; clear ht
  go_enter Tryd.func4, Tryd.ntmps4
  go_wp2_with fail
  have HS0 := hide (bs_new w (.bool an) (.slice ao a.length ac) (.bool bn) (.slice bo b.length bc) 33)
  generalize (w.alloc (.cells #[.bool an, .slice ao a.length ac] 33)).alloc (.cells #[.bool bn, .slice bo b.length bc] 33) = W0 at *
  refine (bigs_any W0 (HT.out.below HS0.out.below)).mono ?_
  rintro e W1 ⟨rfl, hb⟩
  have HS1 := hide (HS0.out.later hb)
  clear hb HS0 HT
  obtain ⟨a0, a1, -, -⟩ := HS1.out.a
  obtain ⟨b0, b1, -, -⟩ := HS1.out.b
  go_wp2_with fail
  refine wp_region_held_drew (S := (fun w' => w'.cell? ⟨w.heap.size, 0, none⟩ = some (.bool an) ∧ w'.cell? ⟨w.heap.size, 1, none⟩ = some (.slice ao a.length ac) ∧ w'.cell? ⟨w.heap.size + 1, 0, none⟩ = some (.bool bn) ∧ w'.cell? ⟨w.heap.size + 1, 1, none⟩ = some (.slice bo b.length bc))) (by kernel_rfl) (by (try dsimp only); go_keep) (fun hHeld => ?_)
  refine held_run (v := ?_) 0 31 rfl rfl (by kernel_rfl) (by kernel_rfl) (by kernel_rfl) (fun _ _ _ h => h) (by rfl) ?_ (by assumption) ?_
  rotate_left
  · (intro w hSw; (try dsimp only at hSw); go_simp; with_reducible rfl)
  simp only [Act.put, List.setIfInBounds_toArray, List.set_cons_zero, List.set_cons_succ]
  refine held_run (v := ?_) 1 32 rfl rfl (by kernel_rfl) (by kernel_rfl) (by kernel_rfl) (fun _ _ _ h => h) (by rfl) ?_ (by assumption) ?_
  rotate_left
  · (intro w hSw; (try dsimp only at hSw); go_simp; with_reducible rfl)
  simp only [Act.put, List.setIfInBounds_toArray, List.set_cons_zero, List.set_cons_succ]
  refine held_run (v := ?_) 2 33 rfl rfl (by kernel_rfl) (by kernel_rfl) (by kernel_rfl) (fun _ _ _ h => h) (by rfl) ?_ (by assumption) ?_
  rotate_left
  · (intro w hSw; (try dsimp only at hSw); go_simp; with_reducible rfl)
  simp only [Act.put, List.setIfInBounds_toArray, List.set_cons_zero, List.set_cons_succ]
  refine held_run (v := ?_) 3 34 rfl rfl (by kernel_rfl) (by kernel_rfl) (by kernel_rfl) (fun _ _ _ h => h) (by rfl) ?_ (by assumption) ?_
  rotate_left
  · (intro w hSw; (try dsimp only at hSw); go_simp; with_reducible rfl)
  simp only [Act.put, List.setIfInBounds_toArray, List.set_cons_zero, List.set_cons_succ]
  refine held_run (v := ?_) 4 35 rfl rfl (by kernel_rfl) (by kernel_rfl) (by kernel_rfl) (fun _ _ _ h => h) (by rfl) ?_ (by assumption) ?_
  rotate_left
  · (intro w hSw; (try dsimp only at hSw); go_simp; with_reducible rfl)
  simp only [Act.put, List.setIfInBounds_toArray, List.set_cons_zero, List.set_cons_succ]
  refine held_run (v := ?_) 5 36 rfl rfl (by kernel_rfl) (by kernel_rfl) (by kernel_rfl) (fun _ _ _ h => h) (by rfl) ?_ (by assumption) ?_
  rotate_left
  · (intro w hSw; (try dsimp only at hSw); go_simp; with_reducible rfl)
  simp only [Act.put, List.setIfInBounds_toArray, List.set_cons_zero, List.set_cons_succ]
  refine held_run (v := ?_) 6 37 rfl rfl (by kernel_rfl) (by kernel_rfl) (by kernel_rfl) (fun _ _ _ h => h) (by rfl) ?_ (by assumption) ?_
  rotate_left
  · (intro w hSw; (try dsimp only at hSw); go_simp; with_reducible rfl)
  simp only [Act.put, List.setIfInBounds_toArray, List.set_cons_zero, List.set_cons_succ]
  refine held_run (v := ?_) 7 38 rfl rfl (by kernel_rfl) (by kernel_rfl) (by kernel_rfl) (fun _ _ _ h => h) (by rfl) ?_ (by assumption) ?_
  rotate_left
  · (intro w hSw; (try dsimp only at hSw); go_simp; with_reducible rfl)
  simp only [Act.put, List.setIfInBounds_toArray, List.set_cons_zero, List.set_cons_succ]
  refine held_run (v := ?_) 8 39 rfl rfl (by kernel_rfl) (by kernel_rfl) (by kernel_rfl) (fun _ _ _ h => h) (by rfl) ?_ (by assumption) ?_
  rotate_left
  · (intro w hSw; (try dsimp only at hSw); go_simp; with_reducible rfl)
  simp only [Act.put, List.setIfInBounds_toArray, List.set_cons_zero, List.set_cons_succ]
  refine held_run (v := ?_) 9 40 rfl rfl (by kernel_rfl) (by kernel_rfl) (by kernel_rfl) (fun _ _ _ h => h) (by rfl) ?_ (by assumption) ?_
  rotate_left
  · (intro w hSw; (try dsimp only at hSw); go_simp; with_reducible rfl)
  simp only [Act.put, List.setIfInBounds_toArray, List.set_cons_zero, List.set_cons_succ]
  refine held_run (v := ?_) 10 41 rfl rfl (by kernel_rfl) (by kernel_rfl) (by kernel_rfl) (fun _ _ _ h => h) (by rfl) ?_ (by assumption) ?_
  rotate_left
  · (intro w hSw; (try dsimp only at hSw); go_simp; with_reducible rfl)
  simp only [Act.put, List.setIfInBounds_toArray, List.set_cons_zero, List.set_cons_succ]
  refine held_run (v := ?_) 11 42 rfl rfl (by kernel_rfl) (by kernel_rfl) (by kernel_rfl) (fun _ _ _ h => h) (by rfl) ?_ (by assumption) ?_
  rotate_left
  · (intro w hSw; (try dsimp only at hSw); go_simp; with_reducible rfl)
  simp only [Act.put, List.setIfInBounds_toArray, List.set_cons_zero, List.set_cons_succ]
  refine held_run (v := ?_) 12 43 rfl rfl (by kernel_rfl) (by kernel_rfl) (by kernel_rfl) (fun _ _ _ h => h) (by rfl) ?_ (by assumption) ?_
  rotate_left
  · (intro w hSw; (try dsimp only at hSw); go_simp; with_reducible rfl)
  simp only [Act.put, List.setIfInBounds_toArray, List.set_cons_zero, List.set_cons_succ]
  refine held_run (v := ?_) 13 44 rfl rfl (by kernel_rfl) (by kernel_rfl) (by kernel_rfl) (fun _ _ _ h => h) (by rfl) ?_ (by assumption) ?_
  rotate_left
  · (intro w hSw; (try dsimp only at hSw); go_simp; with_reducible rfl)
  simp only [Act.put, List.setIfInBounds_toArray, List.set_cons_zero, List.set_cons_succ]
  refine held_run (v := ?_) 14 45 rfl rfl (by kernel_rfl) (by kernel_rfl) (by kernel_rfl) (fun _ _ _ h => h) (by rfl) ?_ (by assumption) ?_
  rotate_left
  · (intro w hSw; (try dsimp only at hSw); go_simp; with_reducible rfl)
  simp only [Act.put, List.setIfInBounds_toArray, List.set_cons_zero, List.set_cons_succ]
  refine held_run (v := ?_) 15 46 rfl rfl (by kernel_rfl) (by kernel_rfl) (by kernel_rfl) (fun _ _ _ h => h) (by rfl) ?_ (by assumption) ?_
  rotate_left
  · (intro w hSw; (try dsimp only at hSw); go_simp; with_reducible rfl)
  simp only [Act.put, List.setIfInBounds_toArray, List.set_cons_zero, List.set_cons_succ]
  refine held_run (v := ?_) 17 48 rfl rfl (by kernel_rfl) (by kernel_rfl) (by kernel_rfl) (fun _ _ _ h => h) (by rfl) ?_ (by assumption) ?_
  rotate_left
  · (intro w hSw; (try dsimp only at hSw); go_simp; with_reducible rfl)
  simp only [Act.put, List.setIfInBounds_toArray, List.set_cons_zero, List.set_cons_succ]
  refine wpAnyH_ready (rs := [16]) (by kernel_rfl) (by simp) (AllReadyH.cons (o := _) rfl (fun K hK => ?_) AllReadyH.nil)
  go_simp
  (refine (check_any _ an _ a (HA.out.below HS1.out.drew.below (Nat.le_refl _))).mono ?_; rintro e w2 ⟨rfl, hb⟩; have h2 := hide (HS1.out.drew.later hb); clear hb; obtain ⟨ka2, kb2, -, -⟩ := h2.out.a; obtain ⟨kc2, kd2, -, -⟩ := h2.out.b)
  go_wp2_with fail
  refine hK.out _ _ (by (try dsimp only); go_keep) (fun hHeld => ?_)
  clear hK K
  try simp only [Act.put, List.setIfInBounds_toArray, List.set_cons_zero, List.set_cons_succ]
  refine wpAnyH_ready (rs := [18]) (by kernel_rfl) (by simp) (AllReadyH.cons (o := _) rfl (fun K hK => ?_) AllReadyH.nil)
  go_simp
  (refine (intFault_any _ an _ a (HA.out.below h2.out.below (Nat.le_refl _))).mono ?_; rintro e w3 ⟨rfl, hb⟩; have h3 := hide (h2.out.later hb); clear hb; obtain ⟨ka3, kb3, -, -⟩ := h3.out.a; obtain ⟨kc3, kd3, -, -⟩ := h3.out.b)
  go_wp2_with fail
  refine hK.out _ _ (by (try dsimp only); go_keep) (fun hHeld => ?_)
  clear hK K
  try simp only [Act.put, List.setIfInBounds_toArray, List.set_cons_zero, List.set_cons_succ]
  refine wpAnyH_ready (rs := [19]) (by kernel_rfl) (by simp) (AllReadyH.cons (o := _) rfl (fun K hK => ?_) AllReadyH.nil)
  go_simp
  (refine (same_checked (isNum an a) _).mono ?_; rintro e w4 ⟨rfl, hb⟩; have h4 := hide (h3.out.later hb); clear hb; obtain ⟨ka4, kb4, -, -⟩ := h4.out.a; obtain ⟨kc4, kd4, -, -⟩ := h4.out.b)
  go_wp2_with fail
  refine hK.out _ _ (by (try dsimp only); go_keep) (fun hHeld => ?_)
  clear hK K
  try simp only [Act.put, List.setIfInBounds_toArray, List.set_cons_zero, List.set_cons_succ]
  refine held_run (v := ?_) 20 51 rfl rfl (by kernel_rfl) (by kernel_rfl) (by kernel_rfl) (fun _ _ _ h => h) (by rfl) ?_ (by assumption) ?_
  rotate_left
  · (intro w hSw; (try dsimp only at hSw); go_simp; with_reducible rfl)
  simp only [Act.put, List.setIfInBounds_toArray, List.set_cons_zero, List.set_cons_succ]
  refine held_run (v := ?_) 21 52 rfl rfl (by kernel_rfl) (by kernel_rfl) (by kernel_rfl) (fun _ _ _ h => h) (by rfl) ?_ (by assumption) ?_
  rotate_left
  · (intro w hSw; (try dsimp only at hSw); go_simp; with_reducible rfl)
  simp only [Act.put, List.setIfInBounds_toArray, List.set_cons_zero, List.set_cons_succ]
  refine held_run (v := ?_) 22 53 rfl rfl (by kernel_rfl) (by kernel_rfl) (by kernel_rfl) (fun _ _ _ h => h) (by rfl) ?_ (by assumption) ?_
  rotate_left
  · (intro w hSw; (try dsimp only at hSw); go_simp; with_reducible rfl)
  simp only [Act.put, List.setIfInBounds_toArray, List.set_cons_zero, List.set_cons_succ]
  refine held_run (v := ?_) 23 54 rfl rfl (by kernel_rfl) (by kernel_rfl) (by kernel_rfl) (fun _ _ _ h => h) (by rfl) ?_ (by assumption) ?_
  rotate_left
  · (intro w hSw; (try dsimp only at hSw); go_simp; with_reducible rfl)
  simp only [Act.put, List.setIfInBounds_toArray, List.set_cons_zero, List.set_cons_succ]
  refine held_run (v := ?_) 25 56 rfl rfl (by kernel_rfl) (by kernel_rfl) (by kernel_rfl) (fun _ _ _ h => h) (by rfl) ?_ (by assumption) ?_
  rotate_left
  · (intro w hSw; (try dsimp only at hSw); go_simp; with_reducible rfl)
  simp only [Act.put, List.setIfInBounds_toArray, List.set_cons_zero, List.set_cons_succ]
  refine wpAnyH_ready (rs := [24]) (by kernel_rfl) (by simp) (AllReadyH.cons (o := _) rfl (fun K hK => ?_) AllReadyH.nil)
  go_simp
  (refine (check_any _ bn _ b (HB.out.below h4.out.below (Nat.le_refl _))).mono ?_; rintro e w5 ⟨rfl, hb⟩; have h5 := hide (h4.out.later hb); clear hb; obtain ⟨ka5, kb5, -, -⟩ := h5.out.a; obtain ⟨kc5, kd5, -, -⟩ := h5.out.b)
  go_wp2_with fail
  refine hK.out _ _ (by (try dsimp only); go_keep) (fun hHeld => ?_)
  clear hK K
  try simp only [Act.put, List.setIfInBounds_toArray, List.set_cons_zero, List.set_cons_succ]
  refine wpAnyH_ready (rs := [26]) (by kernel_rfl) (by simp) (AllReadyH.cons (o := _) rfl (fun K hK => ?_) AllReadyH.nil)
  go_simp
  (refine (intFault_any _ bn _ b (HB.out.below h5.out.below (Nat.le_refl _))).mono ?_; rintro e w6 ⟨rfl, hb⟩; have h6 := hide (h5.out.later hb); clear hb; obtain ⟨ka6, kb6, -, -⟩ := h6.out.a; obtain ⟨kc6, kd6, -, -⟩ := h6.out.b)
  go_wp2_with fail
  refine hK.out _ _ (by (try dsimp only); go_keep) (fun hHeld => ?_)
  clear hK K
  try simp only [Act.put, List.setIfInBounds_toArray, List.set_cons_zero, List.set_cons_succ]
  refine wpAnyH_ready (rs := [27]) (by kernel_rfl) (by simp) (AllReadyH.cons (o := _) rfl (fun K hK => ?_) AllReadyH.nil)
  go_simp
  (refine (same_checked (isNum bn b) _).mono ?_; rintro e w7 ⟨rfl, hb⟩; have h7 := hide (h6.out.later hb); clear hb; obtain ⟨ka7, kb7, -, -⟩ := h7.out.a; obtain ⟨kc7, kd7, -, -⟩ := h7.out.b)
  go_wp2_with fail
  refine hK.out _ _ (by (try dsimp only); go_keep) (fun hHeld => ?_)
  clear hK K
  try simp only [Act.put, List.setIfInBounds_toArray, List.set_cons_zero, List.set_cons_succ]
  refine held_run (v := ?_) 28 59 rfl rfl (by kernel_rfl) (by kernel_rfl) (by kernel_rfl) (fun _ _ _ h => h) (by rfl) ?_ (by assumption) ?_
  rotate_left
  · (intro w hSw; (try dsimp only at hSw); go_simp; with_reducible rfl)
  simp only [Act.put, List.setIfInBounds_toArray, List.set_cons_zero, List.set_cons_succ]
  refine held_run (v := ?_) 29 60 rfl rfl (by kernel_rfl) (by kernel_rfl) (by kernel_rfl) (fun _ _ _ h => h) (by rfl) ?_ (by assumption) ?_
  rotate_left
  · (intro w hSw; (try dsimp only at hSw); go_simp; with_reducible rfl)
  simp only [Act.put, List.setIfInBounds_toArray, List.set_cons_zero, List.set_cons_succ]
  refine wpAnyH_done (by kernel_rfl) ?_ _
  have HS7 := h7
  clear h2 h3 h4 h5 h6 h7 HS1 a0 a1 b0 b1 hHeld ka2 kb2 kc2 kd2 ka3 kb3 kc3 kd3 ka4 kb4 kc4 kd4 ka5 kb5 kc5 kd5 ka6 kb6 kc6 kd6 ka7 kb7 kc7 kd7
  go_wp2_with fail
  refine (of_any _ n hn0 hn1).mono ?_
  rintro e w2 ⟨r2, rfl, hr2, hb⟩
  have h2 := hide (HS7.out.later hb)
  obtain ⟨⟨q2, o2, l2, c2⟩, rfl⟩ := hr2.nm
  have HR2 := hide hr2
  clear hb hr2
  go_wp2_with fail
  refine (small_any _ _ n 2 HR2.out).mono ?_
  rintro e w3 ⟨rfl, hb⟩
  have h3 := hide (h2.out.later hb)
  clear hb HR2 h2
  have hrm : room n = true := by unfold room; simp; omega
  rw [hrm, if_pos rfl]
  have hnn : (n == n) = true := by simp
  have hnb : (n != n) = false := by simp
  go_wp2_with fail
  refine (of_any _ n hn0 hn1).mono ?_
  rintro e w4 ⟨r4, rfl, hr4, hb⟩
  have h4 := hide (h3.out.later hb)
  obtain ⟨⟨q4, o4, l4, c4⟩, rfl⟩ := hr4.nm
  have HR4 := hide hr4
  clear hb hr4 h3
  go_wp2_with fail
  refine (n_any _ n hn0 hn1).mono ?_
  rintro e w5 ⟨r5, rfl, hr5, hb⟩
  have h5 := hide (h4.out.later hb)
  have HR5 := hide hr5
  replace HR4 := hide (HR4.out.below hb (Nat.le_refl _))
  obtain ⟨⟨q5, o5, l5, c5⟩, rfl⟩ := hr5.rm
  clear hb hr5 h4
  go_wp2_with fail
  refine (intR_any _ _ n 5 HR5.out).mono ?_
  rintro e w6 ⟨r6, rfl, hr6, hb⟩
  have h6 := hide (h5.out.later hb)
  have HR6 := hide hr6
  replace HR4 := hide (HR4.out.below hb (Nat.le_refl _))
  obtain ⟨⟨q6, o6, l6, c6⟩, rfl⟩ := hr6.nm
  clear hb hr6 h5 HR5
  go_wp2_with fail
  refine (sameInt_true _ _ _ n 2 5 HR4.out HR6.out).mono ?_
  rintro e w7 ⟨rfl, hb⟩
  have HS8 := hide (h6.out.later hb)
  clear hb h6 HR4 HR6 HS7
  obtain ⟨a0, a1, -, -⟩ := HS8.out.a
  obtain ⟨b0, b1, -, -⟩ := HS8.out.b
  go_wp2_with fail
  have hf1 : faulty (isNum an a) = 0 := by rw [HGA.out]; rfl
  have hf2 : faulty (isNum bn b) = 0 := by rw [HGB.out]; rfl
  refine wp_region_held_drew (S := (fun w' => w'.cell? ⟨w.heap.size, 0, none⟩ = some (.bool an) ∧ w'.cell? ⟨w.heap.size, 1, none⟩ = some (.slice ao a.length ac) ∧ w'.cell? ⟨w.heap.size + 1, 0, none⟩ = some (.bool bn) ∧ w'.cell? ⟨w.heap.size + 1, 1, none⟩ = some (.slice bo b.length bc))) (by kernel_rfl) (by (try dsimp only); go_keep) (fun hHeld => ?_)
  refine held_run (v := ?_) 0 96 rfl rfl (by kernel_rfl) (by kernel_rfl) (by kernel_rfl) (fun _ _ _ h => h) (by rfl) ?_ (by assumption) ?_
  rotate_left
  · (intro w hSw; (try dsimp only at hSw); go_simp; with_reducible rfl)
  simp only [Act.put, List.setIfInBounds_toArray, List.set_cons_zero, List.set_cons_succ]
  refine held_run (v := ?_) 2 98 rfl rfl (by kernel_rfl) (by kernel_rfl) (by kernel_rfl) (fun _ _ _ h => h) (by rfl) ?_ (by assumption) ?_
  rotate_left
  · (intro w hSw; (try dsimp only at hSw); go_simp; with_reducible rfl)
  simp only [Act.put, List.setIfInBounds_toArray, List.set_cons_zero, List.set_cons_succ]
  refine wpAnyH_ready (rs := [1]) (by kernel_rfl) (by simp) (AllReadyH.cons (o := _) rfl (fun K hK => ?_) AllReadyH.nil)
  go_simp
  (refine (intFault_any _ an _ a (HA.out.below HS8.out.drew.below (Nat.le_refl _))).mono ?_; rintro e w8 ⟨rfl, hb⟩; have h8 := hide (HS8.out.drew.later hb); clear hb; obtain ⟨ka8, kb8, -, -⟩ := h8.out.a; obtain ⟨kc8, kd8, -, -⟩ := h8.out.b)
  go_wp2_with fail
  refine hK.out _ _ (by (try dsimp only); go_keep) (fun hHeld => ?_)
  clear hK K
  try simp only [Act.put, List.setIfInBounds_toArray, List.set_cons_zero, List.set_cons_succ]
  refine wpAnyH_ready (rs := [3]) (by kernel_rfl) (by simp) (AllReadyH.cons (o := _) rfl (fun K hK => ?_) AllReadyH.nil)
  go_simp
  (refine (intFault_any _ bn _ b (HB.out.below h8.out.below (Nat.le_refl _))).mono ?_; rintro e w9 ⟨rfl, hb⟩; have h9 := hide (h8.out.later hb); clear hb; obtain ⟨ka9, kb9, -, -⟩ := h9.out.a; obtain ⟨kc9, kd9, -, -⟩ := h9.out.b)
  go_wp2_with fail
  refine hK.out _ _ (by (try dsimp only); go_keep) (fun hHeld => ?_)
  clear hK K
  try simp only [Act.put, List.setIfInBounds_toArray, List.set_cons_zero, List.set_cons_succ]
  refine held_run (v := ?_) 4 100 rfl rfl (by kernel_rfl) (by kernel_rfl) (by kernel_rfl) (fun _ _ _ h => h) (by rfl) ?_ (by assumption) ?_
  rotate_left
  · (intro w hSw; (try dsimp only at hSw); go_simp; with_reducible rfl)
  simp only [Act.put, List.setIfInBounds_toArray, List.set_cons_zero, List.set_cons_succ]
  refine held_run (v := ?_) 5 101 rfl rfl (by kernel_rfl) (by kernel_rfl) (by kernel_rfl) (fun _ _ _ h => h) (by rfl) ?_ (by assumption) ?_
  rotate_left
  · (intro w hSw; (try dsimp only at hSw); go_simp; with_reducible rfl)
  simp only [Act.put, List.setIfInBounds_toArray, List.set_cons_zero, List.set_cons_succ]
  refine held_run (v := ?_) 6 102 rfl rfl (by kernel_rfl) (by kernel_rfl) (by kernel_rfl) (fun _ _ _ h => h) (by rfl) ?_ (by assumption) ?_
  rotate_left
  · (intro w hSw; (try dsimp only at hSw); go_simp; with_reducible rfl)
  simp only [Act.put, List.setIfInBounds_toArray, List.set_cons_zero, List.set_cons_succ]
  refine held_run (v := ?_) 7 103 rfl rfl (by kernel_rfl) (by kernel_rfl) (by kernel_rfl) (fun _ _ _ h => h) (by rfl) ?_ (by assumption) ?_
  rotate_left
  · (intro w hSw; (try dsimp only at hSw); go_simp; with_reducible rfl)
  simp only [Act.put, List.setIfInBounds_toArray, List.set_cons_zero, List.set_cons_succ]
  refine wpAnyH_ready (rs := [8]) (by kernel_rfl) (by simp) (AllReadyH.cons (o := _) rfl (fun K hK => ?_) AllReadyH.nil)
  go_simp
  (refine (light_any _ an _ a (HA.out.below h9.out.below (Nat.le_refl _))).mono ?_; rintro e w10 ⟨rfl, hb⟩; have h10 := hide (h9.out.later hb); clear hb; obtain ⟨ka10, kb10, -, -⟩ := h10.out.a; obtain ⟨kc10, kd10, -, -⟩ := h10.out.b)
  go_wp2_with fail
  refine hK.out _ _ (by (try dsimp only); go_keep) (fun hHeld => ?_)
  clear hK K
  try simp only [Act.put, List.setIfInBounds_toArray, List.set_cons_zero, List.set_cons_succ]
  refine held_run (v := ?_) 9 105 rfl rfl (by kernel_rfl) (by kernel_rfl) (by kernel_rfl) (fun _ _ _ h => h) (by rfl) ?_ (by assumption) ?_
  rotate_left
  · (intro w hSw; (try dsimp only at hSw); go_simp; with_reducible rfl)
  simp only [Act.put, List.setIfInBounds_toArray, List.set_cons_zero, List.set_cons_succ]
  refine held_run (v := ?_) 10 106 rfl rfl (by kernel_rfl) (by kernel_rfl) (by kernel_rfl) (fun _ _ _ h => h) (by rfl) ?_ (by assumption) ?_
  rotate_left
  · (intro w hSw; (try dsimp only at hSw); go_simp; with_reducible rfl)
  simp only [Act.put, List.setIfInBounds_toArray, List.set_cons_zero, List.set_cons_succ]
  refine held_run (v := ?_) 11 107 rfl rfl (by kernel_rfl) (by kernel_rfl) (by kernel_rfl) (fun _ _ _ h => h) (by rfl) ?_ (by assumption) ?_
  rotate_left
  · (intro w hSw; (try dsimp only at hSw); go_simp; with_reducible rfl)
  simp only [Act.put, List.setIfInBounds_toArray, List.set_cons_zero, List.set_cons_succ]
  refine held_run (v := ?_) 12 108 rfl rfl (by kernel_rfl) (by kernel_rfl) (by kernel_rfl) (fun _ _ _ h => h) (by rfl) ?_ (by assumption) ?_
  rotate_left
  · (intro w hSw; (try dsimp only at hSw); go_simp; with_reducible rfl)
  simp only [Act.put, List.setIfInBounds_toArray, List.set_cons_zero, List.set_cons_succ]
  refine wpAnyH_ready (rs := [13]) (by kernel_rfl) (by simp) (AllReadyH.cons (o := _) rfl (fun K hK => ?_) AllReadyH.nil)
  go_simp
  (refine (light_any _ bn _ b (HB.out.below h10.out.below (Nat.le_refl _))).mono ?_; rintro e w11 ⟨rfl, hb⟩; have h11 := hide (h10.out.later hb); clear hb; obtain ⟨ka11, kb11, -, -⟩ := h11.out.a; obtain ⟨kc11, kd11, -, -⟩ := h11.out.b)
  go_wp2_with fail
  refine hK.out _ _ (by (try dsimp only); go_keep) (fun hHeld => ?_)
  clear hK K
  try simp only [Act.put, List.setIfInBounds_toArray, List.set_cons_zero, List.set_cons_succ]
  refine held_run (v := ?_) 14 110 rfl rfl (by kernel_rfl) (by kernel_rfl) (by kernel_rfl) (fun _ _ _ h => h) (by rfl) ?_ (by assumption) ?_
  rotate_left
  · (intro w hSw; (try dsimp only at hSw); go_simp; with_reducible rfl)
  simp only [Act.put, List.setIfInBounds_toArray, List.set_cons_zero, List.set_cons_succ]
  refine held_run (v := ?_) 15 111 rfl rfl (by kernel_rfl) (by kernel_rfl) (by kernel_rfl) (fun _ _ _ h => h) (by rfl) ?_ (by assumption) ?_
  rotate_left
  · (intro w hSw; (try dsimp only at hSw); go_simp; with_reducible rfl)
  simp only [Act.put, List.setIfInBounds_toArray, List.set_cons_zero, List.set_cons_succ]
  refine wpAnyH_done (by kernel_rfl) ?_ _
  have HS := h11
  clear h8 h9 h10 h11 HS8 a0 a1 b0 b1 hHeld ka8 kb8 kc8 kd8 ka9 kb9 kc9 kd9 ka10 kb10 kc10 kd10 ka11 kb11 kc11 kd11 hf1 hf2 hd hd' hc hc'
  obtain ⟨a0, a1, -, -⟩ := HS.out.a
  go_wp2_with fail
  refine (from_any _ _ xa 12 (NA.out.below HS.out.below (Nat.le_refl _)) (by decide)).mono ?_
  rintro e w2 ⟨r2, rfl, hr2, hb⟩
  obtain ⟨⟨xs, xo, xl, xc⟩, rfl⟩ := hr2.rm
  have hbA : Below w2.heap.size w2 (w2.alloc (.cells #[.int .i64 xs, .slice xo xl xc] 42)) := (Below.refl _ _).alloc (Nat.le_refl _) _
  have h2 := hide ((HS.out.later hb).later hbA)
  have HX := hide (rvar_new w2 ⟨xs, xo, xl, xc⟩ xa 36 hr2)
  have hX : w.heap.size + 1 < w2.heap.size := (HS.out.later hb).size
  clear hr2 hb hbA a0 a1 HS
  obtain ⟨b0, b1, -, -⟩ := h2.out.b
  go_upto_region 10 with fail
  try dsimp only at HX
  generalize w2.alloc (.cells #[.int .i64 xs, .slice xo xl xc] 42) = W2 at *
  generalize w2.heap.size = X at *
  go_cut [11] from 30 (fun v wc => ∃ (Y : Nat) (ry : Rm), v = .pointer (some ⟨Y, 0, none⟩) ∧ BS w wc (.bool an) (.slice ao a.length ac) (.bool bn) (.slice bo b.length bc) ∧ RVar wc X ⟨xs, xo, xl, xc⟩ xa 36 ∧ RVar wc Y ry xb 36 ∧ X < Y)
  case first =>
    go_wp2_with fail
    refine (from_any _ _ xb 12 (NB.out.below h2.out.below (Nat.le_refl _)) (by decide)).mono ?_
    rintro e w3 ⟨r3, rfl, hr3, hb⟩
    obtain ⟨⟨ys, yo, yl, yc⟩, rfl⟩ := hr3.rm
    have hbA : Below w3.heap.size w3 (w3.alloc (.cells #[.int .i64 ys, .slice yo yl yc] 42)) := (Below.refl _ _).alloc (Nat.le_refl _) _
    have h3 := hide ((h2.out.later hb).later hbA)
    have HX3 := hide ((HX.out.later hb).later hbA)
    have HY3 := hide (rvar_new w3 ⟨ys, yo, yl, yc⟩ xb 36 hr3)
    have hY : X < w3.heap.size := (HX.out.later hb).box.lt
    clear hr3 hb hbA b0 b1 h2 HX
    try dsimp only at HY3
    go_wp2_with fail
    go_meet
    case rel => exact ⟨_, ⟨ys, yo, yl, yc⟩, rfl, h3.out, HX3.out, HY3.out, hY⟩
  case rest =>
  obtain ⟨Y, ⟨ys, yo, yl, yc⟩, rfl, hh, hx, hy, hXY⟩ := hcut
  apply_assumption
  exact bigSays_I w wc HTB.out an bn ao bo ac bc a b xa xb X Y xs xo xl xc ys yo yl yc NA.out NB.out hh hx hy hX hXY _ _ _ _ _ _ _ _ _ _ _ _ _ _ _ _ _ _ _ _ _ _ _ _ _ _ _ _ _ _ _ _ _ _ _ _ _ _ _ _ _ _ _ _ _ _ _ _ _ _ _ _ _ _ _ _ _ _ _ _ _ _ _ _ _ _ _ _ _ _ _ _ _ _ _ _ _ _ _ _ _ _ _ _ _ _ _ _ _ _ _ _ _ _ _ _ _ _ _ _ _ _ _ _ _ _ _ _ _ _ _ _ _ _ _ _ _ _ _ _ _ _ _ _ _ _ _ _ _ _ _ _ _ _ _ _ _ _ _ _ _ _ _ _ _ _ _ _ _ _ _ _ _ _ _ _ _ _ _ _ _ _ _ _ _ _ _ _ _ _ _ _ _ _ _ _ _ _ _ _ _ _ _ _ _ _ _ _ _ _ _ _ _ _ _ _ _ _ _ _ _ _ _ _ _ _ _ _ _ _ _ _ _ _ _ _ _ _ _ _ _ _ _ _ _ _ _ _ _ _ _ _ _ _ _ _ _ _ _ _ _ _ _ _ _ _ _ _ _ _ _ _ _ _ _ _ _ _ _ _ _ _ _ _ _ _ _ _ _ _ _ _ _ _ _ _ _ _ _

end Go.Proofs.YtaijeimgbbpgiaaDoor
