/- BigReads, walked. -/
import Derived.Test.YtkfgfodghnafgaaDoorReadF
import Derived.Test.YtkfgfodghnafgaaDoorRefH
import Derived.Test.YtkfgfodghnafgaaDoorBigs
import Derived.Test.YtkfgfodghnafgaaDoorRegions
namespace Go.Proofs.YtkfgfodghnafgaaDoor
open Go.RowKit Limbs Digs

set_option maxRecDepth 100000 in
set_option maxHeartbeats 3200000 in
theorem bigReads_huge (w : World) (htb : Tab w) (s : ByteArray) (h : 500 < s.size) (hs : s.size ≤ 9223372036854775807) :
    Calls Tryd.prog 5 #[.string s] w fun e w' => e = .returned (.bool true) ∧ Below w.heap.size w w' := by
  have HTB := hide htb; clear htb
  have hd : decide ((500 : Int) < (s.size : Int)) = true := decide_eq_true (by omega)
  go_enter Tryd.func5, Tryd.ntmps5
  go_wp2_with fail
  refine (bigs_any w HTB.out).mono ?_
  rintro e w1 ⟨rfl, hb1⟩
  have HB1 := hide hb1; clear hb1
  go_wp2
  go_ret
  exact ⟨rfl, HB1.out⟩

set_option maxRecDepth 100000 in
set_option maxHeartbeats 3200000 in
theorem bigReads_tail (w : World) (htb : Tab w) (s : ByteArray) (hs : s.size ≤ 500) (z f : Int) (ev : Value) (n : Nat)
    (hp : ∀ w : World, Calls Tryd.prog 39 #[.string s] w fun e w' => ∃ va, e = .returned (.tuple #[va, ev]) ∧ NumL w' va z n ∧ Below w.heap.size w w')
    (hr : ∀ w : World, Calls Tryd.prog 40 #[.string s] w fun e w' => ∃ vx, e = .returned (.tuple #[vx, .int .i64 f]) ∧ NumR w' vx z n ∧ Below w.heap.size w w')
    (hsame : ∀ w : World, Calls Tryd.prog 8 #[ev, .int .i64 f] w fun e w' => e = .returned (.bool true) ∧ w' = w) :
    Calls Tryd.prog 5 #[.string s] w fun e w' => e = .returned (.bool true) ∧ Below w.heap.size w w' := by
  have HTB := hide htb; clear htb
  have hd : decide ((500 : Int) < (s.size : Int)) = false := decide_eq_false (by omega)
  go_enter Tryd.func5, Tryd.ntmps5
  go_wp2_with fail
  refine (bigs_any w HTB.out).mono ?_
  rintro e w1 ⟨rfl, hb1⟩
  have HB1 := hide hb1; clear hb1
  go_wp2_with fail
  refine (hp w1).mono ?_
  rintro e w2 ⟨va, rfl, hva, hb2⟩
  obtain ⟨an, asl, az, rfl, hl, -⟩ := id hva
  obtain ⟨ao, ac, rfl, -⟩ := hl
  have HB2 := hide (HB1.out.trans (hb2.mono HB1.out.size))
  have hal : Below w2.heap.size w2 (w2.alloc (.cells #[.bool an, .slice ao az.length ac] 33)) := (Below.refl _ _).alloc (Nat.le_refl _) _
  have HB3 := hide (HB2.out.trans (hal.mono HB2.out.size))
  have NA := hide (hva.below hal (Nat.le_refl _))
  have hA3 := hide (box_new w2 (.bool an) (.slice ao az.length ac) 33 w2.heap.size rfl)
  have LA3 : Hid (w2.heap.size < (w2.alloc (.cells #[.bool an, .slice ao az.length ac] 33)).heap.size) := by show _ < _; simp
  clear hva hb2 HB1 HB2 hal
  generalize az.length = al at *
  go_wp2_with fail
  generalize w2.alloc (.cells #[.bool an, .slice ao al ac] 33) = w3 at *
  generalize w2.heap.size = B at *
  refine (hr w3).mono ?_
  rintro e w4 ⟨vx, rfl, hvx, hb4⟩
  obtain ⟨sn, o, l, c, rfl, -⟩ := hvx.form
  have hal : Below w4.heap.size w4 (w4.alloc (.cells #[.int .i64 sn, .slice o l c] 42)) := (Below.refl _ _).alloc (Nat.le_refl _) _
  have hA5 := hide ((hA3.out.later hb4 LA3.out).later hal (Nat.lt_of_lt_of_le LA3.out hb4.size))
  have LA : Hid (B < (w4.alloc (.cells #[.int .i64 sn, .slice o l c] 42)).heap.size) := by show _ < _; have := LA3.out; have := hb4.size; simp; omega
  have hX5 := hide (boxR_new w4 (.int .i64 sn) (.slice o l c) w4.heap.size rfl)
  have hW5 := hide ((HB3.out.trans (hb4.mono HB3.out.size)).trans (hal.mono (by have := HB3.out.size; have := hb4.size; omega)))
  replace NA := hide ((NA.out.below hb4 (Nat.le_refl _)).below hal (Nat.le_refl _))
  have NX := hide (hvx.below hal (Nat.le_refl _))
  clear hvx hb4 hal hA3 LA3 HB3
  go_wp2_with fail
  generalize w4.alloc (.cells #[.int .i64 sn, .slice o l c] 42) = w5 at *
  generalize w4.heap.size = C at *
  obtain ⟨p0, p1, -, -⟩ := hA5.out
  obtain ⟨q0, q1, -, -⟩ := hX5.out.box
  refine wp_region_held_drew (S := (fun w' => w'.cell? ⟨B, 0, none⟩ = some (.bool an) ∧ w'.cell? ⟨B, 1, none⟩ = some (.slice ao al ac) ∧ w'.cell? ⟨C, 0, none⟩ = some (.int .i64 sn) ∧ w'.cell? ⟨C, 1, none⟩ = some (.slice o l c))) (by kernel_rfl) (by (try dsimp only); go_keep) (fun hHeld => ?_)
  refine held_run (v := ?_) 0 27 rfl rfl (by kernel_rfl) (by kernel_rfl) (by kernel_rfl) (fun _ _ _ h => h) (by rfl) ?_ (by assumption) ?_
  rotate_left
  · (intro w hSw; (try dsimp only at hSw); go_simp; with_reducible rfl)
  simp only [Act.put, List.setIfInBounds_toArray, List.set_cons_zero, List.set_cons_succ]
  refine held_run (v := ?_) 1 28 rfl rfl (by kernel_rfl) (by kernel_rfl) (by kernel_rfl) (fun _ _ _ h => h) (by rfl) ?_ (by assumption) ?_
  rotate_left
  · (intro w hSw; (try dsimp only at hSw); go_simp; with_reducible rfl)
  simp only [Act.put, List.setIfInBounds_toArray, List.set_cons_zero, List.set_cons_succ]
  refine wpAnyH_ready (rs := [2]) (by kernel_rfl) (by simp) (AllReadyH.cons (o := _) rfl (fun K hK => ?_) AllReadyH.nil)
  go_simp
  (refine (hsame _).mono ?_; rintro e w6 ⟨rfl, rfl⟩)
  go_wp2_with fail
  refine hK.out _ _ (by (try dsimp only); go_keep) (fun hHeld => ?_)
  clear hK K
  try simp only [Act.put, List.setIfInBounds_toArray, List.set_cons_zero, List.set_cons_succ]
  refine held_run (v := ?_) 3 30 rfl rfl (by kernel_rfl) (by kernel_rfl) (by kernel_rfl) (fun _ _ _ h => h) (by rfl) ?_ (by assumption) ?_
  rotate_left
  · (intro w hSw; (try dsimp only at hSw); go_simp; with_reducible rfl)
  simp only [Act.put, List.setIfInBounds_toArray, List.set_cons_zero, List.set_cons_succ]
  refine held_run (v := ?_) 4 31 rfl rfl (by kernel_rfl) (by kernel_rfl) (by kernel_rfl) (fun _ _ _ h => h) (by rfl) ?_ (by assumption) ?_
  rotate_left
  · (intro w hSw; (try dsimp only at hSw); go_simp; with_reducible rfl)
  simp only [Act.put, List.setIfInBounds_toArray, List.set_cons_zero, List.set_cons_succ]
  refine held_run (v := ?_) 5 32 rfl rfl (by kernel_rfl) (by kernel_rfl) (by kernel_rfl) (fun _ _ _ h => h) (by rfl) ?_ (by assumption) ?_
  rotate_left
  · (intro w hSw; (try dsimp only at hSw); go_simp; with_reducible rfl)
  simp only [Act.put, List.setIfInBounds_toArray, List.set_cons_zero, List.set_cons_succ]
  refine wpAnyH_ready (rs := [6]) (by kernel_rfl) (by simp) (AllReadyH.cons (o := _) rfl (fun K hK => ?_) AllReadyH.nil)
  go_simp
  (refine (intR_any _ _ z n (by exact NX.out)).mono ?_; rintro e w6 ⟨r6, rfl, hr6, hb⟩; have HR6 := hide hr6; clear hr6; replace NA := hide (NA.out.below (undrew hb) (Nat.le_refl _)); have hA6 := hide (hA5.out.drew.later hb LA.out); have hX6 := hide (BoxR.later (W := w5.drew) hX5.out hb hX5.out.lt); have hW6 := hide (hW5.out.drew.trans (hb.mono hW5.out.size)); have hW56 := hide (show w5.heap.size ≤ w6.heap.size from hb.size); clear hb; obtain ⟨p60, p61, -, -⟩ := hA6.out; obtain ⟨q60, q61, -, -⟩ := hX6.out.box)
  go_wp2_with fail
  refine hK.out _ _ (by (try dsimp only); go_keep) (fun hHeld => ?_)
  clear hK K
  try simp only [Act.put, List.setIfInBounds_toArray, List.set_cons_zero, List.set_cons_succ]
  refine wpAnyH_ready (rs := [7]) (by kernel_rfl) (by simp) (AllReadyH.cons (o := _) rfl (fun K hK => ?_) AllReadyH.nil)
  go_simp
  (refine (sameInt_true _ _ _ z n n (by exact NA.out) HR6.out).mono ?_; rintro e w7 ⟨rfl, hb⟩; have hA7 := hide (hA6.out.later hb (by exact Nat.lt_of_lt_of_le LA.out hW56.out)); have hX7 := hide (hX6.out.later hb hX6.out.lt); have hW7 := hide (hW6.out.trans (hb.mono hW6.out.size)); clear hb; obtain ⟨p70, p71, -, -⟩ := hA7.out; obtain ⟨q70, q71, -, -⟩ := hX7.out.box)
  go_wp2_with fail
  refine hK.out _ _ (by (try dsimp only); go_keep) (fun hHeld => ?_)
  clear hK K
  try simp only [Act.put, List.setIfInBounds_toArray, List.set_cons_zero, List.set_cons_succ]
  refine held_run (v := ?_) 8 35 rfl rfl (by kernel_rfl) (by kernel_rfl) (by kernel_rfl) (fun _ _ _ h => h) (by rfl) ?_ (by assumption) ?_
  rotate_left
  · (intro w hSw; (try dsimp only at hSw); go_simp; with_reducible rfl)
  simp only [Act.put, List.setIfInBounds_toArray, List.set_cons_zero, List.set_cons_succ]
  refine held_run (v := ?_) 9 2 rfl rfl (by kernel_rfl) (by kernel_rfl) (by kernel_rfl) (fun _ _ _ h => h) (by rfl) ?_ (by assumption) ?_
  rotate_left
  · (intro w hSw; (try dsimp only at hSw); go_simp; with_reducible rfl)
  simp only [Act.put, List.setIfInBounds_toArray, List.set_cons_zero, List.set_cons_succ]
  refine wpAnyH_done (by kernel_rfl) ?_ _
  clear hA5 hA6 hA7 hX5 hX6 hX7 hW5 hW6 NA NX HR6
  go_wp2
  go_ret
  exact ⟨rfl, hW7.out⟩

theorem same_of (n : Int) (hn : 0 < n) (w : World) : Calls Tryd.prog 8 #[.iface 23 (.int .i64 n), .int .i64 n] w fun e w' => e = .returned (.bool true) ∧ w' = w := by
  refine (same_errno n n w).mono ?_
  rintro e w' ⟨rfl, rfl⟩
  refine ⟨?_, rfl⟩
  rw [decide_eq_true hn, beq_self_eq_true]; rfl

theorem bigReads_any (w : World) (htb : Tab w) (s : ByteArray) (hs : s.size ≤ 9223372036854775807) :
    Calls Tryd.prog 5 #[.string s] w fun e w' => e = .returned (.bool true) ∧ Below w.heap.size w w' := by
  have zl : ∀ (W : World) (n : Nat), NumL W (.agg #[.bool false, .slice none 0 0]) 0 n := fun W n => ⟨false, _, [], rfl, Lim.nil W, Nrm.nil, fun _ => rfl, by simp [lv], by simp⟩
  by_cases h5 : 500 < s.size
  · exact bigReads_huge w htb s h5 hs
  · by_cases h4 : 400 < s.size
    · refine bigReads_tail w htb s (by omega) 0 2 (.iface 23 (.int .i64 2)) 0 (fun w => (parse_long w s h4 hs).mono ?_) (fun w => (read_long w s h4 hs).mono ?_) (same_of 2 (by decide))
      · rintro e w' ⟨rfl, hb⟩; exact ⟨_, rfl, zl _ _, hb⟩
      · rintro e w' ⟨rfl, hb⟩; exact ⟨_, rfl, NumR.zero _ _, hb⟩
    · obtain ⟨t, neg, hF⟩ := falls s
      by_cases hg : good t neg
      · refine bigReads_tail w htb s (by omega) (sg neg (dval t t.size)) 0 .nilIface t.size (fun w => (parse_any w s t neg (by omega) hF).mono ?_) (fun w => (read_any w s t neg (by omega) hF).mono ?_) (fun w => (same_nil 0 w).mono ?_)
        · rintro e w' ⟨h, -⟩; obtain ⟨v, rfl, h1, h2⟩ := h hg; exact ⟨v, rfl, h1, h2⟩
        · rintro e w' ⟨h, -⟩; obtain ⟨v, rfl, h1, h2⟩ := h hg; exact ⟨v, rfl, h1, h2⟩
        · rintro e w' ⟨rfl, rfl⟩; exact ⟨rfl, rfl⟩
      · refine bigReads_tail w htb s (by omega) 0 5 (.iface 23 (.int .i64 5)) 0 (fun w => (parse_any w s t neg (by omega) hF).mono ?_) (fun w => (read_any w s t neg (by omega) hF).mono ?_) (same_of 5 (by decide))
        · rintro e w' ⟨-, h⟩; obtain ⟨rfl, hb⟩ := h hg; exact ⟨_, rfl, zl _ _, hb⟩
        · rintro e w' ⟨-, h⟩; obtain ⟨rfl, hb⟩ := h hg; exact ⟨_, rfl, NumR.zero _ _, hb⟩

end Go.Proofs.YtkfgfodghnafgaaDoor
