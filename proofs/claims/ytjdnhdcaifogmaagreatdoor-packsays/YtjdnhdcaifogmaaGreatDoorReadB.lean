/- The reference's reading of a text, walked. -/
import Derived.Test.YtjdnhdcaifogmaaGreatDoorReadA
namespace Go.Proofs.YtjdnhdcaifogmaaGreatDoor
open Go.RowKit Limbs Digs

set_option maxRecDepth 100000 in
set_option maxHeartbeats 3200000 in
theorem read_many (w : World) (t : ByteArray) (hs : t.size ≤ 400) (h1 : 1 < t.size) (h45 : byt t 0 ≠ 45) (h48 : byt t 0 ≠ 48) (hgo : (∀ j, j < t.size → 48 ≤ byt t j ∧ byt t j ≤ 57) → good t false) :
  Calls Tryz.prog 52 #[.string t] w fun e w' => ReadPostR w t false e w' := by
 have HGO' := hide hgo; clear hgo
 have hq0 : decide ((400 : Int) < (t.size : Int)) = false := decide_eq_false (by omega)
 have h00 : 0 < t.size := by omega
 have q1 : decide ((1 : Int) < (t.size : Int)) = true := decide_eq_true (by omega)
 have q2 : (((t[0]'h00).toNat : Int) == 45) = false := by rw [byt_eq h00]; simpa using h45
 have q3 : ((t.size : Int) == 0) = false := by rw [beq_eq_false_iff_ne]; omega
 have q4 : (((t[0]'h00).toNat : Int) == 48) = false := by rw [byt_eq h00]; simpa using h48
 have q5 : (t.toList == [48]) = false := by rw [beq_eq_false_iff_ne]; intro e; have := (str_eq t _).1 e; subst this; exact absurd h1 (by decide)
 have HRB0 := hide (rb_new w)
 have HN0 := hide (NumR.zero ((w.alloc (.cells #[.int .i64 0, .slice none 0 0] 95)).alloc (.cells #[.int .i64 0, .slice none 0 0] 95)) 0)
 go_enter Tryz.func52, Tryz.ntmps52
 go_wp2
 go_loopw [6] (fun i wr => ∃ (k : Nat) (sn : Int) (o : Option Addr) (l c : Nat), k ≤ t.size ∧ i = .int .i64 k ∧ RB w wr (.int .i64 sn) (.slice o l c) ∧ NumR wr (.agg #[.int .i64 sn, .slice o l c]) (dval t k) k ∧ Hid (∀ j, j < k → 48 ≤ byt t j ∧ byt t j ≤ 57)) (fun i _ => t.size - (intOf i).toNat)
 case atStart => exact ⟨0, 0, none, 0, 0, Nat.zero_le _, rfl, HRB0.out, HN0.out, fun j hj => absurd hj (by omega)⟩
 case round =>
  clear HRB0 HN0
  obtain ⟨k, sn, o, l, c, hk, rfl, hRB, hNN, HD⟩ := hrel
  have HN := hide hNN; clear hNN
  obtain ⟨k0, k1, k2, k3⟩ := hRB.var.box
  by_cases hlt : k < t.size
  ·by_cases hc : 48 ≤ byt t k ∧ byt t k ≤ 57
   ·have HD' : Hid (∀ j, j < k + 1 → 48 ≤ byt t j ∧ byt t j ≤ 57) := fun j hj => by
     rcases Nat.lt_succ_iff_lt_or_eq.1 hj with h | h
     ·exact HD.out j h
     ·subst h; exact hc
    have HDL := hide (show -dp (k + 1) < dval t (k + 1) ∧ dval t (k + 1) < dp (k + 1) by have := dval_lt t (k + 1) HD'.out; have := dp_pos (k + 1); omega)
    have HDV := hide (show dval t k * 10 + (((t[k]'hlt).toNat : Int) - 48) = dval t (k + 1) by rw [byt_eq hlt]; simp only [dval]; omega)
    rw [← byt_eq hlt] at hc
    obtain ⟨hc1, hc2⟩ := hc
    have h1 : decide (((t[k]'hlt).toNat : Int) < 48) = false := decide_eq_false (by omega)
    have h2 : decide (57 < ((t[k]'hlt).toNat : Int)) = false := decide_eq_false (by omega)
    have HW := hide (wrap_dig _ hc1 hc2)
    have h0 := hide hRB; clear hRB
    clear HD
    go_wp2_with fail
    refine upto_start (S := (fun w' => w'.cell? ⟨w.heap.size + 1, 0, none⟩ = some (.int .i64 sn) ∧ w'.cell? ⟨w.heap.size + 1, 1, none⟩ = some (.slice o l c))) (k := 10) (by kernel_rfl) (by (try dsimp only); go_keep) (fun hHeld => ?_)
    refine upto_run (v := ?_) 0 63 [2, 8, 9, 10] rfl rfl (by kernel_rfl) (by kernel_rfl) (by kernel_rfl) (by kernel_rfl) (by kernel_rfl) (fun _ _ _ h => h) (by rfl) ?_ (by assumption) ?_
    rotate_left
    ·(intro w hSw; (try dsimp only at hSw); go_simp; with_reducible rfl)
    simp only [Act.put, List.setIfInBounds_toArray, List.set_cons_zero, List.set_cons_succ]
    refine upto_run (v := ?_) 3 66 [5, 6, 7, 8, 9, 10] rfl rfl (by kernel_rfl) (by kernel_rfl) (by kernel_rfl) (by kernel_rfl) (by kernel_rfl) (fun _ _ _ h => h) (by rfl) ?_ (by assumption) ?_
    rotate_left
    ·(intro w hSw; (try dsimp only at hSw); go_simp; with_reducible rfl)
    simp only [Act.put, List.setIfInBounds_toArray, List.set_cons_zero, List.set_cons_succ]
    refine upto_run (v := ?_) 4 67 [5, 6, 7, 8, 9, 10] rfl rfl (by kernel_rfl) (by kernel_rfl) (by kernel_rfl) (by kernel_rfl) (by kernel_rfl) (fun _ _ _ h => h) (by rfl) ?_ (by assumption) ?_
    rotate_left
    ·(intro w hSw; (try dsimp only at hSw); go_simp; with_reducible rfl)
    simp only [Act.put, List.setIfInBounds_toArray, List.set_cons_zero, List.set_cons_succ]
    refine upto_run (v := ?_) 5 68 [6, 7, 8, 9, 10] rfl rfl (by kernel_rfl) (by kernel_rfl) (by kernel_rfl) (by kernel_rfl) (by kernel_rfl) (fun _ _ _ h => h) (by rfl) ?_ (by assumption) ?_
    rotate_left
    ·(intro w hSw; (try dsimp only at hSw); go_simp; with_reducible rfl)
    simp only [Act.put, List.setIfInBounds_toArray, List.set_cons_zero, List.set_cons_succ]
    refine upto_run (v := ?_) 6 69 [7, 8, 9, 10] rfl rfl (by kernel_rfl) (by kernel_rfl) (by kernel_rfl) (by kernel_rfl) (by kernel_rfl) (fun _ _ _ h => h) (by rfl) ?_ (by assumption) ?_
    rotate_left
    ·(intro w hSw; (try dsimp only at hSw); go_simp; with_reducible rfl)
    simp only [Act.put, List.setIfInBounds_toArray, List.set_cons_zero, List.set_cons_succ]
    refine upto_run (v := ?_) 7 70 [8, 9, 10] rfl rfl (by kernel_rfl) (by kernel_rfl) (by kernel_rfl) (by kernel_rfl) (by kernel_rfl) (fun _ _ _ h => h) (by rfl) ?_ (by assumption) ?_
    rotate_left
    ·(intro w hSw; (try dsimp only at hSw); go_simp; with_reducible rfl)
    simp only [Act.put, List.setIfInBounds_toArray, List.set_cons_zero, List.set_cons_succ]
    refine upto_one 1 (by kernel_rfl) rfl (fun K hK => ?_)
    go_simp
    (refine (n_any _ 10 (by decide) (by decide)).mono ?_; rintro e w1 ⟨r1, rfl, hr1, hb⟩; have HR1 := hide hr1; clear hr1; replace HN := hide (HN.out.below (undrew hb) (Nat.le_refl _)); have h1 := hide (h0.out.drew.later hb); clear hb; obtain ⟨k10, k11, k12, k13⟩ := h1.out.var.box)
    go_wp2_with fail
    refine hK.out _ _ (fun _ => by (try dsimp only); go_keep) ?_
    clear hK K
    try simp only [Act.put, List.setIfInBounds_toArray, List.set_cons_zero, List.set_cons_succ]
    refine upto_one 2 (by kernel_rfl) rfl (fun K hK => ?_)
    go_simp
    (refine (times_any _ _ _ (dval t k) 10 k 5 (by exact HN.out) HR1.out (by omega) (by omega)).mono ?_; rintro e w2 ⟨r2, rfl, hr2, hb⟩; have HR2 := hide hr2; clear hr2; have h2 := hide (h1.out.later hb); clear hb; obtain ⟨k20, k21, k22, k23⟩ := h2.out.var.box)
    go_wp2_with fail
    refine hK.out _ _ (fun _ => by (try dsimp only); go_keep) ?_
    clear hK K
    try simp only [Act.put, List.setIfInBounds_toArray, List.set_cons_zero, List.set_cons_succ]
    refine upto_one 8 (by kernel_rfl) rfl (fun K hK => ?_)
    go_simp
    (rw [HW.out]; (refine (n_any _ _ (by omega) (by omega)).mono ?_; rintro e w3 ⟨r3, rfl, hr3, hb⟩; have HR3 := hide hr3; clear hr3; replace HR2 := hide (HR2.out.below hb (Nat.le_refl _)); have h3 := hide (h2.out.later hb); clear hb; obtain ⟨k30, k31, k32, k33⟩ := h3.out.var.box))
    go_wp2_with fail
    refine hK.out _ _ (fun _ => by (try dsimp only); go_keep) ?_
    clear hK K
    try simp only [Act.put, List.setIfInBounds_toArray, List.set_cons_zero, List.set_cons_succ]
    refine upto_one 9 (by kernel_rfl) rfl (fun K hK => ?_)
    go_simp
    (refine (plus_any _ _ _ _ _ (k + 5 + 1) HR2.out (HR3.out.mono (by omega)) (by omega)).mono ?_; rintro e w4 ⟨r4, rfl, hr4, hb⟩; replace hr4 := hr4.tight (m := k + 1) (by rw [HDV.out]; exact HDL.out.1) (by rw [HDV.out]; exact HDL.out.2); rw [HDV.out] at hr4; have HR4 := hide hr4; obtain ⟨sm, o', l', c', rfl, -⟩ := hr4.form; clear hr4; have h4 := hide (h3.out.later hb); clear hb; obtain ⟨k40, k41, k42, k43⟩ := h4.out.var.box)
    go_wp2_with fail
    refine hK.out _ _ (fun _ => by (try dsimp only); go_keep) ?_
    clear hK K
    try simp only [Act.put, List.setIfInBounds_toArray, List.set_cons_zero, List.set_cons_succ]
    refine upto_one 10 (by kernel_rfl) rfl (fun K hK => ?_)
    go_simp
    refine hK.out _ _ (fun h => absurd h (by decide)) ?_
    clear hK K
    try simp only [Act.put, List.setIfInBounds_toArray, List.set_cons_zero, List.set_cons_succ]
    refine upto_done (by kernel_rfl) ?_
    have h5 := hide (h4.out.set (.int .i64 sm) (.slice o' l' c'))
    have HR5 := hide (HR4.out.setCell h4.out.var (.int .i64 sm) (.slice o' l' c'))
    clear h0 h1 h2 h3 h4 HR1 HR2 HR3 HR4 HN
    go_wp2
    go_roundw
    case rel => exact ⟨k + 1, sm, o', l', c', by omega, by go_num, h5.out, HR5.out, HD'⟩
    case measure => simp [intOf]; omega
   ·have HNG : Hid (¬ good t false) := fun h => hc (h.1.1 k hlt)
    obtain ⟨e0, e1, e2, e3⟩ := hRB.res.box
    have HF := hide (hRB.zero 5)
    by_cases h48 : byt t k < 48
    ·have h1 : decide (((t[k]'hlt).toNat : Int) < 48) = true := by rw [byt_eq hlt]; simp; omega
     clear hc hRB HN HD HGO'
     go_wp2
     exact bodyPost_ret (v := .tuple #[.agg #[.int .i64 0, .slice none 0 0], .int .i64 5]) (by simp [results, Tryz.results52, go_sem, e0, e1]) rfl ⟨fun h => absurd h HNG.out, fun _ => HF.out⟩
    ·have h1 : decide (((t[k]'hlt).toNat : Int) < 48) = false := by rw [byt_eq hlt]; simp; omega
     have h2 : decide (57 < ((t[k]'hlt).toNat : Int)) = true := by rw [byt_eq hlt]; simp; omega
     clear hc hRB HN HD HGO'
     go_wp2
     exact bodyPost_ret (v := .tuple #[.agg #[.int .i64 0, .slice none 0 0], .int .i64 5]) (by simp [results, Tryz.results52, go_sem, e0, e1]) rfl ⟨fun h => absurd h HNG.out, fun _ => HF.out⟩
  ·obtain rfl : k = t.size := by omega
   have HGO := hide (HGO'.out HD.out)
   clear HD HGO'
   have HM := hide (show sg false (dval t t.size) = dval t t.size from rfl)
   have hlen : decide ((t.size : Int) < (t.size : Int)) = false := decide_eq_false (by omega)
   obtain ⟨e0, e1, e2, e3⟩ := hRB.res.box
   have HF := hide (hRB.give HN.out)
   rw [← HM.out] at HF
   have n1 : ¬ (w.heap.size = w.heap.size + 1) := by omega
   have n2 : ¬ (w.heap.size + 1 = w.heap.size) := by omega
   clear hRB
   go_wp2
   exact bodyPost_ret (v := .tuple #[.agg #[.int .i64 sn, .slice o l c], .int .i64 0]) (by simp [results, Tryz.results52, go_sem, e0, e1]) rfl ⟨fun _ => HF.out, fun h => absurd HGO.out h⟩

set_option maxRecDepth 100000 in
set_option maxHeartbeats 3200000 in
theorem read_one (w : World) (t : ByteArray) (hs : t.size ≤ 400) (h1 : t.size = 1) (h48 : byt t 0 ≠ 48) (hgo : (∀ j, j < t.size → 48 ≤ byt t j ∧ byt t j ≤ 57) → good t false) :
  Calls Tryz.prog 52 #[.string t] w fun e w' => ReadPostR w t false e w' := by
 have HGO' := hide hgo; clear hgo
 have hq0 : decide ((400 : Int) < (t.size : Int)) = false := decide_eq_false (by omega)
 have h00 : 0 < t.size := by omega
 have q1 : decide ((1 : Int) < (t.size : Int)) = false := decide_eq_false (by omega)
 have q3 : ((t.size : Int) == 0) = false := by rw [beq_eq_false_iff_ne]; omega
 have q4 : (((t[0]'h00).toNat : Int) == 48) = false := by rw [byt_eq h00]; simpa using h48
 have q5 : (t.toList == [48]) = false := by rw [beq_eq_false_iff_ne]; intro e; have := (str_eq t _).1 e; subst this; exact h48 (by decide)
 have HRB0 := hide (rb_new w)
 have HN0 := hide (NumR.zero ((w.alloc (.cells #[.int .i64 0, .slice none 0 0] 95)).alloc (.cells #[.int .i64 0, .slice none 0 0] 95)) 0)
 go_enter Tryz.func52, Tryz.ntmps52
 go_wp2
 go_loopw [6] (fun i wr => ∃ (k : Nat) (sn : Int) (o : Option Addr) (l c : Nat), k ≤ t.size ∧ i = .int .i64 k ∧ RB w wr (.int .i64 sn) (.slice o l c) ∧ NumR wr (.agg #[.int .i64 sn, .slice o l c]) (dval t k) k ∧ Hid (∀ j, j < k → 48 ≤ byt t j ∧ byt t j ≤ 57)) (fun i _ => t.size - (intOf i).toNat)
 case atStart => exact ⟨0, 0, none, 0, 0, Nat.zero_le _, rfl, HRB0.out, HN0.out, fun j hj => absurd hj (by omega)⟩
 case round =>
  clear HRB0 HN0
  obtain ⟨k, sn, o, l, c, hk, rfl, hRB, hNN, HD⟩ := hrel
  have HN := hide hNN; clear hNN
  obtain ⟨k0, k1, k2, k3⟩ := hRB.var.box
  by_cases hlt : k < t.size
  ·by_cases hc : 48 ≤ byt t k ∧ byt t k ≤ 57
   ·have HD' : Hid (∀ j, j < k + 1 → 48 ≤ byt t j ∧ byt t j ≤ 57) := fun j hj => by
     rcases Nat.lt_succ_iff_lt_or_eq.1 hj with h | h
     ·exact HD.out j h
     ·subst h; exact hc
    have HDL := hide (show -dp (k + 1) < dval t (k + 1) ∧ dval t (k + 1) < dp (k + 1) by have := dval_lt t (k + 1) HD'.out; have := dp_pos (k + 1); omega)
    have HDV := hide (show dval t k * 10 + (((t[k]'hlt).toNat : Int) - 48) = dval t (k + 1) by rw [byt_eq hlt]; simp only [dval]; omega)
    rw [← byt_eq hlt] at hc
    obtain ⟨hc1, hc2⟩ := hc
    have h1 : decide (((t[k]'hlt).toNat : Int) < 48) = false := decide_eq_false (by omega)
    have h2 : decide (57 < ((t[k]'hlt).toNat : Int)) = false := decide_eq_false (by omega)
    have HW := hide (wrap_dig _ hc1 hc2)
    have h0 := hide hRB; clear hRB
    clear HD
    go_wp2_with fail
    refine upto_start (S := (fun w' => w'.cell? ⟨w.heap.size + 1, 0, none⟩ = some (.int .i64 sn) ∧ w'.cell? ⟨w.heap.size + 1, 1, none⟩ = some (.slice o l c))) (k := 10) (by kernel_rfl) (by (try dsimp only); go_keep) (fun hHeld => ?_)
    refine upto_run (v := ?_) 0 63 [2, 8, 9, 10] rfl rfl (by kernel_rfl) (by kernel_rfl) (by kernel_rfl) (by kernel_rfl) (by kernel_rfl) (fun _ _ _ h => h) (by rfl) ?_ (by assumption) ?_
    rotate_left
    ·(intro w hSw; (try dsimp only at hSw); go_simp; with_reducible rfl)
    simp only [Act.put, List.setIfInBounds_toArray, List.set_cons_zero, List.set_cons_succ]
    refine upto_run (v := ?_) 3 66 [5, 6, 7, 8, 9, 10] rfl rfl (by kernel_rfl) (by kernel_rfl) (by kernel_rfl) (by kernel_rfl) (by kernel_rfl) (fun _ _ _ h => h) (by rfl) ?_ (by assumption) ?_
    rotate_left
    ·(intro w hSw; (try dsimp only at hSw); go_simp; with_reducible rfl)
    simp only [Act.put, List.setIfInBounds_toArray, List.set_cons_zero, List.set_cons_succ]
    refine upto_run (v := ?_) 4 67 [5, 6, 7, 8, 9, 10] rfl rfl (by kernel_rfl) (by kernel_rfl) (by kernel_rfl) (by kernel_rfl) (by kernel_rfl) (fun _ _ _ h => h) (by rfl) ?_ (by assumption) ?_
    rotate_left
    ·(intro w hSw; (try dsimp only at hSw); go_simp; with_reducible rfl)
    simp only [Act.put, List.setIfInBounds_toArray, List.set_cons_zero, List.set_cons_succ]
    refine upto_run (v := ?_) 5 68 [6, 7, 8, 9, 10] rfl rfl (by kernel_rfl) (by kernel_rfl) (by kernel_rfl) (by kernel_rfl) (by kernel_rfl) (fun _ _ _ h => h) (by rfl) ?_ (by assumption) ?_
    rotate_left
    ·(intro w hSw; (try dsimp only at hSw); go_simp; with_reducible rfl)
    simp only [Act.put, List.setIfInBounds_toArray, List.set_cons_zero, List.set_cons_succ]
    refine upto_run (v := ?_) 6 69 [7, 8, 9, 10] rfl rfl (by kernel_rfl) (by kernel_rfl) (by kernel_rfl) (by kernel_rfl) (by kernel_rfl) (fun _ _ _ h => h) (by rfl) ?_ (by assumption) ?_
    rotate_left
    ·(intro w hSw; (try dsimp only at hSw); go_simp; with_reducible rfl)
    simp only [Act.put, List.setIfInBounds_toArray, List.set_cons_zero, List.set_cons_succ]
    refine upto_run (v := ?_) 7 70 [8, 9, 10] rfl rfl (by kernel_rfl) (by kernel_rfl) (by kernel_rfl) (by kernel_rfl) (by kernel_rfl) (fun _ _ _ h => h) (by rfl) ?_ (by assumption) ?_
    rotate_left
    ·(intro w hSw; (try dsimp only at hSw); go_simp; with_reducible rfl)
    simp only [Act.put, List.setIfInBounds_toArray, List.set_cons_zero, List.set_cons_succ]
    refine upto_one 1 (by kernel_rfl) rfl (fun K hK => ?_)
    go_simp
    (refine (n_any _ 10 (by decide) (by decide)).mono ?_; rintro e w1 ⟨r1, rfl, hr1, hb⟩; have HR1 := hide hr1; clear hr1; replace HN := hide (HN.out.below (undrew hb) (Nat.le_refl _)); have h1 := hide (h0.out.drew.later hb); clear hb; obtain ⟨k10, k11, k12, k13⟩ := h1.out.var.box)
    go_wp2_with fail
    refine hK.out _ _ (fun _ => by (try dsimp only); go_keep) ?_
    clear hK K
    try simp only [Act.put, List.setIfInBounds_toArray, List.set_cons_zero, List.set_cons_succ]
    refine upto_one 2 (by kernel_rfl) rfl (fun K hK => ?_)
    go_simp
    (refine (times_any _ _ _ (dval t k) 10 k 5 (by exact HN.out) HR1.out (by omega) (by omega)).mono ?_; rintro e w2 ⟨r2, rfl, hr2, hb⟩; have HR2 := hide hr2; clear hr2; have h2 := hide (h1.out.later hb); clear hb; obtain ⟨k20, k21, k22, k23⟩ := h2.out.var.box)
    go_wp2_with fail
    refine hK.out _ _ (fun _ => by (try dsimp only); go_keep) ?_
    clear hK K
    try simp only [Act.put, List.setIfInBounds_toArray, List.set_cons_zero, List.set_cons_succ]
    refine upto_one 8 (by kernel_rfl) rfl (fun K hK => ?_)
    go_simp
    (rw [HW.out]; (refine (n_any _ _ (by omega) (by omega)).mono ?_; rintro e w3 ⟨r3, rfl, hr3, hb⟩; have HR3 := hide hr3; clear hr3; replace HR2 := hide (HR2.out.below hb (Nat.le_refl _)); have h3 := hide (h2.out.later hb); clear hb; obtain ⟨k30, k31, k32, k33⟩ := h3.out.var.box))
    go_wp2_with fail
    refine hK.out _ _ (fun _ => by (try dsimp only); go_keep) ?_
    clear hK K
    try simp only [Act.put, List.setIfInBounds_toArray, List.set_cons_zero, List.set_cons_succ]
    refine upto_one 9 (by kernel_rfl) rfl (fun K hK => ?_)
    go_simp
    (refine (plus_any _ _ _ _ _ (k + 5 + 1) HR2.out (HR3.out.mono (by omega)) (by omega)).mono ?_; rintro e w4 ⟨r4, rfl, hr4, hb⟩; replace hr4 := hr4.tight (m := k + 1) (by rw [HDV.out]; exact HDL.out.1) (by rw [HDV.out]; exact HDL.out.2); rw [HDV.out] at hr4; have HR4 := hide hr4; obtain ⟨sm, o', l', c', rfl, -⟩ := hr4.form; clear hr4; have h4 := hide (h3.out.later hb); clear hb; obtain ⟨k40, k41, k42, k43⟩ := h4.out.var.box)
    go_wp2_with fail
    refine hK.out _ _ (fun _ => by (try dsimp only); go_keep) ?_
    clear hK K
    try simp only [Act.put, List.setIfInBounds_toArray, List.set_cons_zero, List.set_cons_succ]
    refine upto_one 10 (by kernel_rfl) rfl (fun K hK => ?_)
    go_simp
    refine hK.out _ _ (fun h => absurd h (by decide)) ?_
    clear hK K
    try simp only [Act.put, List.setIfInBounds_toArray, List.set_cons_zero, List.set_cons_succ]
    refine upto_done (by kernel_rfl) ?_
    have h5 := hide (h4.out.set (.int .i64 sm) (.slice o' l' c'))
    have HR5 := hide (HR4.out.setCell h4.out.var (.int .i64 sm) (.slice o' l' c'))
    clear h0 h1 h2 h3 h4 HR1 HR2 HR3 HR4 HN
    go_wp2
    go_roundw
    case rel => exact ⟨k + 1, sm, o', l', c', by omega, by go_num, h5.out, HR5.out, HD'⟩
    case measure => simp [intOf]; omega
   ·have HNG : Hid (¬ good t false) := fun h => hc (h.1.1 k hlt)
    obtain ⟨e0, e1, e2, e3⟩ := hRB.res.box
    have HF := hide (hRB.zero 5)
    by_cases h48 : byt t k < 48
    ·have h1 : decide (((t[k]'hlt).toNat : Int) < 48) = true := by rw [byt_eq hlt]; simp; omega
     clear hc hRB HN HD HGO'
     go_wp2
     exact bodyPost_ret (v := .tuple #[.agg #[.int .i64 0, .slice none 0 0], .int .i64 5]) (by simp [results, Tryz.results52, go_sem, e0, e1]) rfl ⟨fun h => absurd h HNG.out, fun _ => HF.out⟩
    ·have h1 : decide (((t[k]'hlt).toNat : Int) < 48) = false := by rw [byt_eq hlt]; simp; omega
     have h2 : decide (57 < ((t[k]'hlt).toNat : Int)) = true := by rw [byt_eq hlt]; simp; omega
     clear hc hRB HN HD HGO'
     go_wp2
     exact bodyPost_ret (v := .tuple #[.agg #[.int .i64 0, .slice none 0 0], .int .i64 5]) (by simp [results, Tryz.results52, go_sem, e0, e1]) rfl ⟨fun h => absurd h HNG.out, fun _ => HF.out⟩
  ·obtain rfl : k = t.size := by omega
   have HGO := hide (HGO'.out HD.out)
   clear HD HGO'
   have HM := hide (show sg false (dval t t.size) = dval t t.size from rfl)
   have hlen : decide ((t.size : Int) < (t.size : Int)) = false := decide_eq_false (by omega)
   obtain ⟨e0, e1, e2, e3⟩ := hRB.res.box
   have HF := hide (hRB.give HN.out)
   rw [← HM.out] at HF
   have n1 : ¬ (w.heap.size = w.heap.size + 1) := by omega
   have n2 : ¬ (w.heap.size + 1 = w.heap.size) := by omega
   clear hRB
   go_wp2
   exact bodyPost_ret (v := .tuple #[.agg #[.int .i64 sn, .slice o l c], .int .i64 0]) (by simp [results, Tryz.results52, go_sem, e0, e1]) rfl ⟨fun _ => HF.out, fun h => absurd HGO.out h⟩

set_option maxRecDepth 100000 in
set_option maxHeartbeats 3200000 in
theorem read_zero (w : World) (t : ByteArray) (_hs : t.size ≤ 400) (h1 : t.size = 1) (h48 : byt t 0 = 48) (hz : t.toList = [48]) (hgo : (∀ j, j < t.size → 48 ≤ byt t j ∧ byt t j ≤ 57) → good t false) :
  Calls Tryz.prog 52 #[.string t] w fun e w' => ReadPostR w t false e w' := by
 have HGO' := hide hgo; clear hgo
 have hq0 : decide ((400 : Int) < (t.size : Int)) = false := decide_eq_false (by omega)
 have h00 : 0 < t.size := by omega
 have q1 : decide ((1 : Int) < (t.size : Int)) = false := decide_eq_false (by omega)
 have q3 : ((t.size : Int) == 0) = false := by rw [beq_eq_false_iff_ne]; omega
 have q4 : (((t[0]'h00).toNat : Int) == 48) = true := by rw [byt_eq h00]; simpa using h48
 have q5 : (t.toList == [48]) = true := by rw [beq_iff_eq]; exact hz
 have HRB0 := hide (rb_new w)
 have HN0 := hide (NumR.zero ((w.alloc (.cells #[.int .i64 0, .slice none 0 0] 95)).alloc (.cells #[.int .i64 0, .slice none 0 0] 95)) 0)
 go_enter Tryz.func52, Tryz.ntmps52
 go_wp2
 go_loopw [6] (fun i wr => ∃ (k : Nat) (sn : Int) (o : Option Addr) (l c : Nat), k ≤ t.size ∧ i = .int .i64 k ∧ RB w wr (.int .i64 sn) (.slice o l c) ∧ NumR wr (.agg #[.int .i64 sn, .slice o l c]) (dval t k) k ∧ Hid (∀ j, j < k → 48 ≤ byt t j ∧ byt t j ≤ 57)) (fun i _ => t.size - (intOf i).toNat)
 case atStart => exact ⟨0, 0, none, 0, 0, Nat.zero_le _, rfl, HRB0.out, HN0.out, fun j hj => absurd hj (by omega)⟩
 case round =>
  clear HRB0 HN0
  obtain ⟨k, sn, o, l, c, hk, rfl, hRB, hNN, HD⟩ := hrel
  have HN := hide hNN; clear hNN
  obtain ⟨k0, k1, k2, k3⟩ := hRB.var.box
  by_cases hlt : k < t.size
  ·by_cases hc : 48 ≤ byt t k ∧ byt t k ≤ 57
   ·have HD' : Hid (∀ j, j < k + 1 → 48 ≤ byt t j ∧ byt t j ≤ 57) := fun j hj => by
     rcases Nat.lt_succ_iff_lt_or_eq.1 hj with h | h
     ·exact HD.out j h
     ·subst h; exact hc
    have HDL := hide (show -dp (k + 1) < dval t (k + 1) ∧ dval t (k + 1) < dp (k + 1) by have := dval_lt t (k + 1) HD'.out; have := dp_pos (k + 1); omega)
    have HDV := hide (show dval t k * 10 + (((t[k]'hlt).toNat : Int) - 48) = dval t (k + 1) by rw [byt_eq hlt]; simp only [dval]; omega)
    rw [← byt_eq hlt] at hc
    obtain ⟨hc1, hc2⟩ := hc
    have h1 : decide (((t[k]'hlt).toNat : Int) < 48) = false := decide_eq_false (by omega)
    have h2 : decide (57 < ((t[k]'hlt).toNat : Int)) = false := decide_eq_false (by omega)
    have HW := hide (wrap_dig _ hc1 hc2)
    have h0 := hide hRB; clear hRB
    clear HD
    go_wp2_with fail
    refine upto_start (S := (fun w' => w'.cell? ⟨w.heap.size + 1, 0, none⟩ = some (.int .i64 sn) ∧ w'.cell? ⟨w.heap.size + 1, 1, none⟩ = some (.slice o l c))) (k := 10) (by kernel_rfl) (by (try dsimp only); go_keep) (fun hHeld => ?_)
    refine upto_run (v := ?_) 0 63 [2, 8, 9, 10] rfl rfl (by kernel_rfl) (by kernel_rfl) (by kernel_rfl) (by kernel_rfl) (by kernel_rfl) (fun _ _ _ h => h) (by rfl) ?_ (by assumption) ?_
    rotate_left
    ·(intro w hSw; (try dsimp only at hSw); go_simp; with_reducible rfl)
    simp only [Act.put, List.setIfInBounds_toArray, List.set_cons_zero, List.set_cons_succ]
    refine upto_run (v := ?_) 3 66 [5, 6, 7, 8, 9, 10] rfl rfl (by kernel_rfl) (by kernel_rfl) (by kernel_rfl) (by kernel_rfl) (by kernel_rfl) (fun _ _ _ h => h) (by rfl) ?_ (by assumption) ?_
    rotate_left
    ·(intro w hSw; (try dsimp only at hSw); go_simp; with_reducible rfl)
    simp only [Act.put, List.setIfInBounds_toArray, List.set_cons_zero, List.set_cons_succ]
    refine upto_run (v := ?_) 4 67 [5, 6, 7, 8, 9, 10] rfl rfl (by kernel_rfl) (by kernel_rfl) (by kernel_rfl) (by kernel_rfl) (by kernel_rfl) (fun _ _ _ h => h) (by rfl) ?_ (by assumption) ?_
    rotate_left
    ·(intro w hSw; (try dsimp only at hSw); go_simp; with_reducible rfl)
    simp only [Act.put, List.setIfInBounds_toArray, List.set_cons_zero, List.set_cons_succ]
    refine upto_run (v := ?_) 5 68 [6, 7, 8, 9, 10] rfl rfl (by kernel_rfl) (by kernel_rfl) (by kernel_rfl) (by kernel_rfl) (by kernel_rfl) (fun _ _ _ h => h) (by rfl) ?_ (by assumption) ?_
    rotate_left
    ·(intro w hSw; (try dsimp only at hSw); go_simp; with_reducible rfl)
    simp only [Act.put, List.setIfInBounds_toArray, List.set_cons_zero, List.set_cons_succ]
    refine upto_run (v := ?_) 6 69 [7, 8, 9, 10] rfl rfl (by kernel_rfl) (by kernel_rfl) (by kernel_rfl) (by kernel_rfl) (by kernel_rfl) (fun _ _ _ h => h) (by rfl) ?_ (by assumption) ?_
    rotate_left
    ·(intro w hSw; (try dsimp only at hSw); go_simp; with_reducible rfl)
    simp only [Act.put, List.setIfInBounds_toArray, List.set_cons_zero, List.set_cons_succ]
    refine upto_run (v := ?_) 7 70 [8, 9, 10] rfl rfl (by kernel_rfl) (by kernel_rfl) (by kernel_rfl) (by kernel_rfl) (by kernel_rfl) (fun _ _ _ h => h) (by rfl) ?_ (by assumption) ?_
    rotate_left
    ·(intro w hSw; (try dsimp only at hSw); go_simp; with_reducible rfl)
    simp only [Act.put, List.setIfInBounds_toArray, List.set_cons_zero, List.set_cons_succ]
    refine upto_one 1 (by kernel_rfl) rfl (fun K hK => ?_)
    go_simp
    (refine (n_any _ 10 (by decide) (by decide)).mono ?_; rintro e w1 ⟨r1, rfl, hr1, hb⟩; have HR1 := hide hr1; clear hr1; replace HN := hide (HN.out.below (undrew hb) (Nat.le_refl _)); have h1 := hide (h0.out.drew.later hb); clear hb; obtain ⟨k10, k11, k12, k13⟩ := h1.out.var.box)
    go_wp2_with fail
    refine hK.out _ _ (fun _ => by (try dsimp only); go_keep) ?_
    clear hK K
    try simp only [Act.put, List.setIfInBounds_toArray, List.set_cons_zero, List.set_cons_succ]
    refine upto_one 2 (by kernel_rfl) rfl (fun K hK => ?_)
    go_simp
    (refine (times_any _ _ _ (dval t k) 10 k 5 (by exact HN.out) HR1.out (by omega) (by omega)).mono ?_; rintro e w2 ⟨r2, rfl, hr2, hb⟩; have HR2 := hide hr2; clear hr2; have h2 := hide (h1.out.later hb); clear hb; obtain ⟨k20, k21, k22, k23⟩ := h2.out.var.box)
    go_wp2_with fail
    refine hK.out _ _ (fun _ => by (try dsimp only); go_keep) ?_
    clear hK K
    try simp only [Act.put, List.setIfInBounds_toArray, List.set_cons_zero, List.set_cons_succ]
    refine upto_one 8 (by kernel_rfl) rfl (fun K hK => ?_)
    go_simp
    (rw [HW.out]; (refine (n_any _ _ (by omega) (by omega)).mono ?_; rintro e w3 ⟨r3, rfl, hr3, hb⟩; have HR3 := hide hr3; clear hr3; replace HR2 := hide (HR2.out.below hb (Nat.le_refl _)); have h3 := hide (h2.out.later hb); clear hb; obtain ⟨k30, k31, k32, k33⟩ := h3.out.var.box))
    go_wp2_with fail
    refine hK.out _ _ (fun _ => by (try dsimp only); go_keep) ?_
    clear hK K
    try simp only [Act.put, List.setIfInBounds_toArray, List.set_cons_zero, List.set_cons_succ]
    refine upto_one 9 (by kernel_rfl) rfl (fun K hK => ?_)
    go_simp
    (refine (plus_any _ _ _ _ _ (k + 5 + 1) HR2.out (HR3.out.mono (by omega)) (by omega)).mono ?_; rintro e w4 ⟨r4, rfl, hr4, hb⟩; replace hr4 := hr4.tight (m := k + 1) (by rw [HDV.out]; exact HDL.out.1) (by rw [HDV.out]; exact HDL.out.2); rw [HDV.out] at hr4; have HR4 := hide hr4; obtain ⟨sm, o', l', c', rfl, -⟩ := hr4.form; clear hr4; have h4 := hide (h3.out.later hb); clear hb; obtain ⟨k40, k41, k42, k43⟩ := h4.out.var.box)
    go_wp2_with fail
    refine hK.out _ _ (fun _ => by (try dsimp only); go_keep) ?_
    clear hK K
    try simp only [Act.put, List.setIfInBounds_toArray, List.set_cons_zero, List.set_cons_succ]
    refine upto_one 10 (by kernel_rfl) rfl (fun K hK => ?_)
    go_simp
    refine hK.out _ _ (fun h => absurd h (by decide)) ?_
    clear hK K
    try simp only [Act.put, List.setIfInBounds_toArray, List.set_cons_zero, List.set_cons_succ]
    refine upto_done (by kernel_rfl) ?_
    have h5 := hide (h4.out.set (.int .i64 sm) (.slice o' l' c'))
    have HR5 := hide (HR4.out.setCell h4.out.var (.int .i64 sm) (.slice o' l' c'))
    clear h0 h1 h2 h3 h4 HR1 HR2 HR3 HR4 HN
    go_wp2
    go_roundw
    case rel => exact ⟨k + 1, sm, o', l', c', by omega, by go_num, h5.out, HR5.out, HD'⟩
    case measure => simp [intOf]; omega
   ·have HNG : Hid (¬ good t false) := fun h => hc (h.1.1 k hlt)
    obtain ⟨e0, e1, e2, e3⟩ := hRB.res.box
    have HF := hide (hRB.zero 5)
    by_cases h48 : byt t k < 48
    ·have h1 : decide (((t[k]'hlt).toNat : Int) < 48) = true := by rw [byt_eq hlt]; simp; omega
     clear hc hRB HN HD HGO'
     go_wp2
     exact bodyPost_ret (v := .tuple #[.agg #[.int .i64 0, .slice none 0 0], .int .i64 5]) (by simp [results, Tryz.results52, go_sem, e0, e1]) rfl ⟨fun h => absurd h HNG.out, fun _ => HF.out⟩
    ·have h1 : decide (((t[k]'hlt).toNat : Int) < 48) = false := by rw [byt_eq hlt]; simp; omega
     have h2 : decide (57 < ((t[k]'hlt).toNat : Int)) = true := by rw [byt_eq hlt]; simp; omega
     clear hc hRB HN HD HGO'
     go_wp2
     exact bodyPost_ret (v := .tuple #[.agg #[.int .i64 0, .slice none 0 0], .int .i64 5]) (by simp [results, Tryz.results52, go_sem, e0, e1]) rfl ⟨fun h => absurd h HNG.out, fun _ => HF.out⟩
  ·obtain rfl : k = t.size := by omega
   have HGO := hide (HGO'.out HD.out)
   clear HD HGO'
   have HM := hide (show sg false (dval t t.size) = dval t t.size from rfl)
   have hlen : decide ((t.size : Int) < (t.size : Int)) = false := decide_eq_false (by omega)
   obtain ⟨e0, e1, e2, e3⟩ := hRB.res.box
   have HF := hide (hRB.give HN.out)
   rw [← HM.out] at HF
   have n1 : ¬ (w.heap.size = w.heap.size + 1) := by omega
   have n2 : ¬ (w.heap.size + 1 = w.heap.size) := by omega
   clear hRB
   go_wp2
   exact bodyPost_ret (v := .tuple #[.agg #[.int .i64 sn, .slice o l c], .int .i64 0]) (by simp [results, Tryz.results52, go_sem, e0, e1]) rfl ⟨fun _ => HF.out, fun h => absurd HGO.out h⟩

set_option maxRecDepth 100000 in
set_option maxHeartbeats 3200000 in
theorem read_neg (w : World) (s t : ByteArray) (hs : s.size ≤ 400) (h1 : 1 < s.size) (h45 : byt s 0 = 45) (ht : s.extract 1 s.size = t) (hts : t.size + 1 = s.size) (h48 : byt t 0 ≠ 48) (hgo : (∀ j, j < t.size → 48 ≤ byt t j ∧ byt t j ≤ 57) → good t true) :
  Calls Tryz.prog 52 #[.string s] w fun e w' => ReadPostR w t true e w' := by
 have HGO' := hide hgo; clear hgo
 have hq0 : decide ((400 : Int) < (s.size : Int)) = false := decide_eq_false (by omega)
 have h00 : 0 < s.size := by omega
 have q1 : decide ((1 : Int) < (s.size : Int)) = true := decide_eq_true (by omega)
 have q2 : (((s[0]'h00).toNat : Int) == 45) = true := by rw [byt_eq h00]; simpa using h45
 have h01 : 0 < t.size := by omega
 have q3 : ((t.size : Int) == 0) = false := by rw [beq_eq_false_iff_ne]; omega
 have q4 : (((t[0]'h01).toNat : Int) == 48) = false := by rw [byt_eq h01]; simpa using h48
 have q5 : (t.toList == [48]) = false := by rw [beq_eq_false_iff_ne]; intro e; have := (str_eq t _).1 e; subst this; exact h48 (by decide)
 have HRB0 := hide (rb_new w)
 have HN0 := hide (NumR.zero ((w.alloc (.cells #[.int .i64 0, .slice none 0 0] 95)).alloc (.cells #[.int .i64 0, .slice none 0 0] 95)) 0)
 go_enter Tryz.func52, Tryz.ntmps52
 go_wp2
 go_loopw [6] (fun i wr => ∃ (k : Nat) (sn : Int) (o : Option Addr) (l c : Nat), k ≤ t.size ∧ i = .int .i64 k ∧ RB w wr (.int .i64 sn) (.slice o l c) ∧ NumR wr (.agg #[.int .i64 sn, .slice o l c]) (dval t k) k ∧ Hid (∀ j, j < k → 48 ≤ byt t j ∧ byt t j ≤ 57)) (fun i _ => t.size - (intOf i).toNat)
 case atStart => exact ⟨0, 0, none, 0, 0, Nat.zero_le _, rfl, HRB0.out, HN0.out, fun j hj => absurd hj (by omega)⟩
 case round =>
  clear HRB0 HN0
  obtain ⟨k, sn, o, l, c, hk, rfl, hRB, hNN, HD⟩ := hrel
  have HN := hide hNN; clear hNN
  obtain ⟨k0, k1, k2, k3⟩ := hRB.var.box
  by_cases hlt : k < t.size
  ·by_cases hc : 48 ≤ byt t k ∧ byt t k ≤ 57
   ·have HD' : Hid (∀ j, j < k + 1 → 48 ≤ byt t j ∧ byt t j ≤ 57) := fun j hj => by
     rcases Nat.lt_succ_iff_lt_or_eq.1 hj with h | h
     ·exact HD.out j h
     ·subst h; exact hc
    have HDL := hide (show -dp (k + 1) < dval t (k + 1) ∧ dval t (k + 1) < dp (k + 1) by have := dval_lt t (k + 1) HD'.out; have := dp_pos (k + 1); omega)
    have HDV := hide (show dval t k * 10 + (((t[k]'hlt).toNat : Int) - 48) = dval t (k + 1) by rw [byt_eq hlt]; simp only [dval]; omega)
    rw [← byt_eq hlt] at hc
    obtain ⟨hc1, hc2⟩ := hc
    have h1 : decide (((t[k]'hlt).toNat : Int) < 48) = false := decide_eq_false (by omega)
    have h2 : decide (57 < ((t[k]'hlt).toNat : Int)) = false := decide_eq_false (by omega)
    have HW := hide (wrap_dig _ hc1 hc2)
    have h0 := hide hRB; clear hRB
    clear HD
    go_wp2_with fail
    refine upto_start (S := (fun w' => w'.cell? ⟨w.heap.size + 1, 0, none⟩ = some (.int .i64 sn) ∧ w'.cell? ⟨w.heap.size + 1, 1, none⟩ = some (.slice o l c))) (k := 10) (by kernel_rfl) (by (try dsimp only); go_keep) (fun hHeld => ?_)
    refine upto_run (v := ?_) 0 63 [2, 8, 9, 10] rfl rfl (by kernel_rfl) (by kernel_rfl) (by kernel_rfl) (by kernel_rfl) (by kernel_rfl) (fun _ _ _ h => h) (by rfl) ?_ (by assumption) ?_
    rotate_left
    ·(intro w hSw; (try dsimp only at hSw); go_simp; with_reducible rfl)
    simp only [Act.put, List.setIfInBounds_toArray, List.set_cons_zero, List.set_cons_succ]
    refine upto_run (v := ?_) 3 66 [5, 6, 7, 8, 9, 10] rfl rfl (by kernel_rfl) (by kernel_rfl) (by kernel_rfl) (by kernel_rfl) (by kernel_rfl) (fun _ _ _ h => h) (by rfl) ?_ (by assumption) ?_
    rotate_left
    ·(intro w hSw; (try dsimp only at hSw); go_simp; with_reducible rfl)
    simp only [Act.put, List.setIfInBounds_toArray, List.set_cons_zero, List.set_cons_succ]
    refine upto_run (v := ?_) 4 67 [5, 6, 7, 8, 9, 10] rfl rfl (by kernel_rfl) (by kernel_rfl) (by kernel_rfl) (by kernel_rfl) (by kernel_rfl) (fun _ _ _ h => h) (by rfl) ?_ (by assumption) ?_
    rotate_left
    ·(intro w hSw; (try dsimp only at hSw); go_simp; with_reducible rfl)
    simp only [Act.put, List.setIfInBounds_toArray, List.set_cons_zero, List.set_cons_succ]
    refine upto_run (v := ?_) 5 68 [6, 7, 8, 9, 10] rfl rfl (by kernel_rfl) (by kernel_rfl) (by kernel_rfl) (by kernel_rfl) (by kernel_rfl) (fun _ _ _ h => h) (by rfl) ?_ (by assumption) ?_
    rotate_left
    ·(intro w hSw; (try dsimp only at hSw); go_simp; with_reducible rfl)
    simp only [Act.put, List.setIfInBounds_toArray, List.set_cons_zero, List.set_cons_succ]
    refine upto_run (v := ?_) 6 69 [7, 8, 9, 10] rfl rfl (by kernel_rfl) (by kernel_rfl) (by kernel_rfl) (by kernel_rfl) (by kernel_rfl) (fun _ _ _ h => h) (by rfl) ?_ (by assumption) ?_
    rotate_left
    ·(intro w hSw; (try dsimp only at hSw); go_simp; with_reducible rfl)
    simp only [Act.put, List.setIfInBounds_toArray, List.set_cons_zero, List.set_cons_succ]
    refine upto_run (v := ?_) 7 70 [8, 9, 10] rfl rfl (by kernel_rfl) (by kernel_rfl) (by kernel_rfl) (by kernel_rfl) (by kernel_rfl) (fun _ _ _ h => h) (by rfl) ?_ (by assumption) ?_
    rotate_left
    ·(intro w hSw; (try dsimp only at hSw); go_simp; with_reducible rfl)
    simp only [Act.put, List.setIfInBounds_toArray, List.set_cons_zero, List.set_cons_succ]
    refine upto_one 1 (by kernel_rfl) rfl (fun K hK => ?_)
    go_simp
    (refine (n_any _ 10 (by decide) (by decide)).mono ?_; rintro e w1 ⟨r1, rfl, hr1, hb⟩; have HR1 := hide hr1; clear hr1; replace HN := hide (HN.out.below (undrew hb) (Nat.le_refl _)); have h1 := hide (h0.out.drew.later hb); clear hb; obtain ⟨k10, k11, k12, k13⟩ := h1.out.var.box)
    go_wp2_with fail
    refine hK.out _ _ (fun _ => by (try dsimp only); go_keep) ?_
    clear hK K
    try simp only [Act.put, List.setIfInBounds_toArray, List.set_cons_zero, List.set_cons_succ]
    refine upto_one 2 (by kernel_rfl) rfl (fun K hK => ?_)
    go_simp
    (refine (times_any _ _ _ (dval t k) 10 k 5 (by exact HN.out) HR1.out (by omega) (by omega)).mono ?_; rintro e w2 ⟨r2, rfl, hr2, hb⟩; have HR2 := hide hr2; clear hr2; have h2 := hide (h1.out.later hb); clear hb; obtain ⟨k20, k21, k22, k23⟩ := h2.out.var.box)
    go_wp2_with fail
    refine hK.out _ _ (fun _ => by (try dsimp only); go_keep) ?_
    clear hK K
    try simp only [Act.put, List.setIfInBounds_toArray, List.set_cons_zero, List.set_cons_succ]
    refine upto_one 8 (by kernel_rfl) rfl (fun K hK => ?_)
    go_simp
    (rw [HW.out]; (refine (n_any _ _ (by omega) (by omega)).mono ?_; rintro e w3 ⟨r3, rfl, hr3, hb⟩; have HR3 := hide hr3; clear hr3; replace HR2 := hide (HR2.out.below hb (Nat.le_refl _)); have h3 := hide (h2.out.later hb); clear hb; obtain ⟨k30, k31, k32, k33⟩ := h3.out.var.box))
    go_wp2_with fail
    refine hK.out _ _ (fun _ => by (try dsimp only); go_keep) ?_
    clear hK K
    try simp only [Act.put, List.setIfInBounds_toArray, List.set_cons_zero, List.set_cons_succ]
    refine upto_one 9 (by kernel_rfl) rfl (fun K hK => ?_)
    go_simp
    (refine (plus_any _ _ _ _ _ (k + 5 + 1) HR2.out (HR3.out.mono (by omega)) (by omega)).mono ?_; rintro e w4 ⟨r4, rfl, hr4, hb⟩; replace hr4 := hr4.tight (m := k + 1) (by rw [HDV.out]; exact HDL.out.1) (by rw [HDV.out]; exact HDL.out.2); rw [HDV.out] at hr4; have HR4 := hide hr4; obtain ⟨sm, o', l', c', rfl, -⟩ := hr4.form; clear hr4; have h4 := hide (h3.out.later hb); clear hb; obtain ⟨k40, k41, k42, k43⟩ := h4.out.var.box)
    go_wp2_with fail
    refine hK.out _ _ (fun _ => by (try dsimp only); go_keep) ?_
    clear hK K
    try simp only [Act.put, List.setIfInBounds_toArray, List.set_cons_zero, List.set_cons_succ]
    refine upto_one 10 (by kernel_rfl) rfl (fun K hK => ?_)
    go_simp
    refine hK.out _ _ (fun h => absurd h (by decide)) ?_
    clear hK K
    try simp only [Act.put, List.setIfInBounds_toArray, List.set_cons_zero, List.set_cons_succ]
    refine upto_done (by kernel_rfl) ?_
    have h5 := hide (h4.out.set (.int .i64 sm) (.slice o' l' c'))
    have HR5 := hide (HR4.out.setCell h4.out.var (.int .i64 sm) (.slice o' l' c'))
    clear h0 h1 h2 h3 h4 HR1 HR2 HR3 HR4 HN
    go_wp2
    go_roundw
    case rel => exact ⟨k + 1, sm, o', l', c', by omega, by go_num, h5.out, HR5.out, HD'⟩
    case measure => simp [intOf]; omega
   ·have HNG : Hid (¬ good t true) := fun h => hc (h.1.1 k hlt)
    obtain ⟨e0, e1, e2, e3⟩ := hRB.res.box
    have HF := hide (hRB.zero 5)
    by_cases h48 : byt t k < 48
    ·have h1 : decide (((t[k]'hlt).toNat : Int) < 48) = true := by rw [byt_eq hlt]; simp; omega
     clear hc hRB HN HD HGO'
     go_wp2
     exact bodyPost_ret (v := .tuple #[.agg #[.int .i64 0, .slice none 0 0], .int .i64 5]) (by simp [results, Tryz.results52, go_sem, e0, e1]) rfl ⟨fun h => absurd h HNG.out, fun _ => HF.out⟩
    ·have h1 : decide (((t[k]'hlt).toNat : Int) < 48) = false := by rw [byt_eq hlt]; simp; omega
     have h2 : decide (57 < ((t[k]'hlt).toNat : Int)) = true := by rw [byt_eq hlt]; simp; omega
     clear hc hRB HN HD HGO'
     go_wp2
     exact bodyPost_ret (v := .tuple #[.agg #[.int .i64 0, .slice none 0 0], .int .i64 5]) (by simp [results, Tryz.results52, go_sem, e0, e1]) rfl ⟨fun h => absurd h HNG.out, fun _ => HF.out⟩
  ·obtain rfl : k = t.size := by omega
   have HGO := hide (HGO'.out HD.out)
   clear HD HGO'
   have HM := hide (show sg true (dval t t.size) = -(dval t t.size) from rfl)
   have hlen : decide ((t.size : Int) < (s.size : Int)) = true := decide_eq_true (by omega)
   go_wp2_with fail
   refine (minus_any _ _ (dval t t.size) t.size HN.out).mono ?_
   rintro e w5 ⟨r5, rfl, hr5, hb⟩
   have h5 := hRB.later hb
   rw [← HM.out] at hr5
   have HR5 := hide hr5
   obtain ⟨sm, o', l', c', rfl, -⟩ := hr5.form
   clear hr5 hb
   obtain ⟨c0, c1, c2, c3⟩ := h5.var.box
   have h6 := h5.set (.int .i64 sm) (.slice o' l' c')
   have HR6 := hide (HR5.out.setCell h5.var (.int .i64 sm) (.slice o' l' c'))
   obtain ⟨e0, e1, e2, e3⟩ := h6.res.box
   have HF := hide (h6.give HR6.out)
   have n1 : ¬ (w.heap.size = w.heap.size + 1) := by omega
   have n2 : ¬ (w.heap.size + 1 = w.heap.size) := by omega
   clear h5 h6 HR5 HR6 hRB
   go_wp2
   exact bodyPost_ret (v := .tuple #[.agg #[.int .i64 sm, .slice o' l' c'], .int .i64 0]) (by simp [results, Tryz.results52, go_sem, e0, e1]) rfl ⟨fun _ => HF.out, fun h => absurd HGO.out h⟩

set_option maxRecDepth 100000 in
set_option maxHeartbeats 3200000 in
theorem read_empty (w : World) (t : ByteArray) (h0 : t.size = 0) :
  Calls Tryz.prog 52 #[.string t] w fun e w' => ErrR w 5 e w' := by
 have HF : Hid (ErrR w 5 (.returned (.tuple #[.agg #[.int .i64 0, .slice none 0 0], .int .i64 5])) (w.alloc (.cells #[.int .i64 0, .slice none 0 0] 95))) := ⟨rfl, (Below.refl _ _).alloc (Nat.le_refl _) _⟩
 obtain rfl := size_zero h0
 go_enter Tryz.func52, Tryz.ntmps52
 go_wp2
 exact bodyPost_ret (v := .tuple #[.agg #[.int .i64 0, .slice none 0 0], .int .i64 5]) (by simp [results, Tryz.results52, go_sem]) rfl HF.out

set_option maxRecDepth 100000 in
set_option maxHeartbeats 3200000 in
theorem read_nought (w : World) (t : ByteArray) (hs : t.size ≤ 400) (h1 : 1 < t.size) (h48 : byt t 0 = 48) :
  Calls Tryz.prog 52 #[.string t] w fun e w' => ErrR w 5 e w' := by
 have HF : Hid (ErrR w 5 (.returned (.tuple #[.agg #[.int .i64 0, .slice none 0 0], .int .i64 5])) (w.alloc (.cells #[.int .i64 0, .slice none 0 0] 95))) := ⟨rfl, (Below.refl _ _).alloc (Nat.le_refl _) _⟩
 have hq0 : decide ((400 : Int) < (t.size : Int)) = false := decide_eq_false (by omega)
 have h00 : 0 < t.size := by omega
 have q1 : decide ((1 : Int) < (t.size : Int)) = true := decide_eq_true (by omega)
 have q2 : (((t[0]'h00).toNat : Int) == 45) = false := by rw [byt_eq h00, h48]; rfl
 have q3 : ((t.size : Int) == 0) = false := by rw [beq_eq_false_iff_ne]; omega
 have q4 : (((t[0]'h00).toNat : Int) == 48) = true := by rw [byt_eq h00]; simpa using h48
 go_enter Tryz.func52, Tryz.ntmps52
 go_wp2
 exact bodyPost_ret (v := .tuple #[.agg #[.int .i64 0, .slice none 0 0], .int .i64 5]) (by simp [results, Tryz.results52, go_sem]) rfl HF.out

set_option maxRecDepth 100000 in
set_option maxHeartbeats 3200000 in
theorem read_negnought (w : World) (s t : ByteArray) (hs : s.size ≤ 400) (h1 : 1 < s.size) (h45 : byt s 0 = 45) (ht : s.extract 1 s.size = t) (hts : t.size + 1 = s.size) (h48 : byt t 0 = 48) (ht1 : 1 < t.size) :
  Calls Tryz.prog 52 #[.string s] w fun e w' => ErrR w 5 e w' := by
 have HF : Hid (ErrR w 5 (.returned (.tuple #[.agg #[.int .i64 0, .slice none 0 0], .int .i64 5])) (w.alloc (.cells #[.int .i64 0, .slice none 0 0] 95))) := ⟨rfl, (Below.refl _ _).alloc (Nat.le_refl _) _⟩
 have hq0 : decide ((400 : Int) < (s.size : Int)) = false := decide_eq_false (by omega)
 have h00 : 0 < s.size := by omega
 have q1 : decide ((1 : Int) < (s.size : Int)) = true := decide_eq_true (by omega)
 have q2 : (((s[0]'h00).toNat : Int) == 45) = true := by rw [byt_eq h00]; simpa using h45
 have h01 : 0 < t.size := by omega
 have q3 : ((t.size : Int) == 0) = false := by rw [beq_eq_false_iff_ne]; omega
 have q4 : (((t[0]'h01).toNat : Int) == 48) = true := by rw [byt_eq h01]; simpa using h48
 have q6 : decide ((1 : Int) < (t.size : Int)) = true := decide_eq_true (by omega)
 go_enter Tryz.func52, Tryz.ntmps52
 go_wp2
 exact bodyPost_ret (v := .tuple #[.agg #[.int .i64 0, .slice none 0 0], .int .i64 5]) (by simp [results, Tryz.results52, go_sem]) rfl HF.out

set_option maxRecDepth 100000 in
set_option maxHeartbeats 3200000 in
theorem read_negzero (w : World) (s t : ByteArray) (_hs : s.size ≤ 400) (_h1 : 1 < s.size) (h45 : byt s 0 = 45) (ht : s.extract 1 s.size = t) (hts : t.size + 1 = s.size) (h48 : byt t 0 = 48) (ht1 : t.size = 1) (hz : t.toList = [48]) :
  Calls Tryz.prog 52 #[.string s] w fun e w' => ErrR w 5 e w' := by
 have HF : Hid (ErrR w 5 (.returned (.tuple #[.agg #[.int .i64 0, .slice none 0 0], .int .i64 5])) (w.alloc (.cells #[.int .i64 0, .slice none 0 0] 95))) := ⟨rfl, (Below.refl _ _).alloc (Nat.le_refl _) _⟩
 have hq0 : decide ((400 : Int) < (s.size : Int)) = false := decide_eq_false (by omega)
 have h00 : 0 < s.size := by omega
 have q1 : decide ((1 : Int) < (s.size : Int)) = true := decide_eq_true (by omega)
 have q2 : (((s[0]'h00).toNat : Int) == 45) = true := by rw [byt_eq h00]; simpa using h45
 have h01 : 0 < t.size := by omega
 have q3 : ((t.size : Int) == 0) = false := by rw [beq_eq_false_iff_ne]; omega
 have q4 : (((t[0]'h01).toNat : Int) == 48) = true := by rw [byt_eq h01]; simpa using h48
 have q6 : decide ((1 : Int) < (t.size : Int)) = false := decide_eq_false (by omega)
 have q5 : (t.toList == [48]) = true := by rw [beq_iff_eq]; exact hz
 go_enter Tryz.func52, Tryz.ntmps52
 go_wp2
 exact bodyPost_ret (v := .tuple #[.agg #[.int .i64 0, .slice none 0 0], .int .i64 5]) (by simp [results, Tryz.results52, go_sem]) rfl HF.out

end Go.Proofs.YtjdnhdcaifogmaaGreatDoor
