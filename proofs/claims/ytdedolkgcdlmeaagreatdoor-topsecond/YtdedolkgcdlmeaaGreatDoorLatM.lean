/- A closed fact of lattices. -/
import Derived.Test.YtdedolkgcdlmeaaGreatDoorLatL
import Derived.Test.YtdedolkgcdlmeaaGreatDoorVecT
import Derived.Test.YtdedolkgcdlmeaaGreatDoorTextZ
namespace Go.Proofs.YtdedolkgcdlmeaaGreatDoor
open Go.RowKit Limbs Digs

theorem txt_2 : txt 2 = [50] := by
  unfold txt Lib.itoa
  rw [if_neg (by decide), show (2 : Int).toNat = 2 from rfl, Lib.decDigits, dif_pos (by decide)]
  rfl

theorem txt_4 : txt 4 = [52] := by
  unfold txt Lib.itoa
  rw [if_neg (by decide), show (4 : Int).toNat = 4 from rfl, Lib.decDigits, dif_pos (by decide)]
  rfl

theorem text24 : vtxt [2, 4] = [40, 50, 32, 52, 41] := by
  unfold vtxt
  rw [List.map_cons, List.map_cons, List.map_nil, txt_2, txt_4]
  rfl

theorem ready_form {hs : List (List Int)} {p : Nat → Nat} (h : FormL 2 hs p) (ha : Alikes 2 (InL hs) (InL ([] ++ [[2, 4]]))) : hs = [[2, 4]] := by
  refine formL_one h (p' := fun _ => 0) ⟨fun r hr => ?_, ⟨fun i k hik hk => ?_, fun i _ => by decide, fun i b hi hb => by omega, fun i hi => ?_, fun i k hik hk => ?_⟩⟩ ha
  · rw [List.mem_singleton] at hr; rw [hr]; rfl
  · simp only [List.length_singleton] at hk; omega
  · simp only [List.length_singleton] at hi
    obtain rfl : i = 0 := by omega
    decide
  · simp only [List.length_singleton] at hk; omega

set_option linter.unusedSimpArgs false in
set_option maxRecDepth 100000 in
set_option maxHeartbeats 4000000 in
theorem ready_any (w : World) (ht : Tab w) : Calls Tryz.prog 45 #[] w fun e w' => e = .returned (.bool true) ∧ Below w.heap.size w w' := by
  have HT := hide ht
  clear ht
  go_enter Tryz.func45, Tryz.ntmps45
  go_wp2_with fail
  refine (newL_ok w 2 6 (by decide) (by decide)).mono ?_
  rintro e w1 ⟨rfl, -, hb1⟩
  have HBX := hide (box_new w1 (.int .i64 2) (.slice none 0 0) 55 _ rfl)
  have HBE := hide (hb1.trans (((Below.refl w1.heap.size w1).alloc (Nat.le_refl _) (.cells #[.int .i64 2, .slice none 0 0] 55)).mono hb1.size))
  have HLE := hide hb1.size
  have HL1 : Hid (w1.heap.size < (w1.alloc (.cells #[.int .i64 2, .slice none 0 0] 55)).heap.size) := by show _ < _; simp
  obtain ⟨c0, c1, z0, z1⟩ := HBX.out
  clear hb1
  go_wp2_with fail
  generalize w1.alloc (.cells #[.int .i64 2, .slice none 0 0] 55) = W1 at *
  have HBL := hide ((Below.refl W1.heap.size W1).alloc (Nat.le_refl _) (.cells #[.int .i64 2, .int .i64 4] 3))
  have d0 := (HBL.out.cell (p := ⟨w1.heap.size, 0, none⟩) HL1.out).trans c0
  have d1 := (HBL.out.cell (p := ⟨w1.heap.size, 1, none⟩) HL1.out).trans c1
  have HRS : Hid (RowS (W1.alloc (.cells #[.int .i64 2, .int .i64 4] 3)) (.slice (some ⟨W1.heap.size, 0, none⟩) 2 2) [2, 4]) := by
    refine ⟨_, _, rfl, Nat.le_refl _, fun i => ?_, fun _ => ⟨_, _, rfl, by simp, fun i hi => ?_⟩⟩
    · match i with
      | 0 => decide
      | 1 => decide
      | i + 2 => simp
    · match i, hi with
      | 0, _ => rw [World.cell?_alloc_new]; rfl
      | 1, _ => rw [World.cell?_alloc_new]; rfl
  refine upto_start (S := (fun w' => w'.cell? ⟨w1.heap.size, 0, none⟩ = some (.int .i64 2) ∧ w'.cell? ⟨w1.heap.size, 1, none⟩ = some (.slice none 0 0))) (k := 5) (by kernel_rfl) (by (try dsimp only); go_keep) (fun hHeld => ?_)
  refine upto_run (v := ?_) 0 15 [3, 4, 5, 6, 7, 8] rfl rfl (by kernel_rfl) (by kernel_rfl) (by kernel_rfl) (by kernel_rfl) (by kernel_rfl) (fun _ _ _ h => h) (by rfl) ?_ (by assumption) ?_
  rotate_left
  · (intro w hSw; (try dsimp only at hSw); go_simp; with_reducible rfl)
  simp only [Act.put, List.setIfInBounds_toArray, List.set_cons_zero, List.set_cons_succ]
  refine upto_one 1 (by kernel_rfl) rfl (fun K hK => ?_)
  go_simp
  refine hK.out _ _ (fun _ => by exact ⟨d0, d1⟩) ?_
  clear hK K
  try simp only [Act.put, List.setIfInBounds_toArray, List.set_cons_zero, List.set_cons_succ]
  refine upto_one 2 (by kernel_rfl) rfl (fun K hK => ?_)
  go_simp
  (refine (ofV_any _ _ [2, 4] (by exact HRS.out.below (Below.refl _ _).drew (Nat.le_refl _)) (by decide)).mono ?_; rintro e w3 ⟨P, rfl, ho⟩; have HB3 := hide (show Below W1.heap.size W1 w3 from HBL.out.drew.trans (ho.below.mono (by simp))); have HV3 := hide ho.vec; have e0 := (HB3.out.cell (p := ⟨w1.heap.size, 0, none⟩) HL1.out).trans c0; have e1 := (HB3.out.cell (p := ⟨w1.heap.size, 1, none⟩) HL1.out).trans c1; clear ho)
  go_wp2_with fail
  refine hK.out _ _ (fun _ => by exact ⟨e0, e1⟩) ?_
  clear hK K
  try simp only [Act.put, List.setIfInBounds_toArray, List.set_cons_zero, List.set_cons_succ]
  refine upto_one 3 (by kernel_rfl) rfl (fun K hK => ?_)
  go_simp
  (refine (insertL_ok _ _ _ 2 2 [] [2, 4] (by exact ⟨⟨_, rfl, matN_nil _ _⟩, _, formL_nil _⟩) (by exact HV3.out) rfl (by decide) (by decide) (by decide)).mono ?_; rintro e w4 ⟨v4, hs, rfl, ⟨⟨u4, rfl, hu4⟩, p4, hF4⟩, hb4, hA4, hfr4⟩; obtain rfl := ready_form hF4 hA4; have HU4 := hide hu4; have HFR := hide (hfr4 _ rfl); have HB4 := hide (HB3.out.trans (hb4.mono HB3.out.size)); obtain ⟨f0, f1, x0, x1⟩ := HBX.out.later HB4.out HL1.out; have HL3 := hide (Nat.lt_of_lt_of_le HL1.out HB3.out.size); obtain ⟨o4, k4, rfl, -, -⟩ := hu4; clear hb4 hF4 hA4 hfr4)
  go_wp2_with fail
  refine hK.out _ _ (fun _ => by exact ⟨f0, f1⟩) ?_
  clear hK K
  try simp only [Act.put, List.setIfInBounds_toArray, List.set_cons_zero, List.set_cons_succ]
  refine upto_one 4 (by kernel_rfl) rfl (fun K hK => ?_)
  go_simp
  refine hK.out _ _ (fun _ => by exact ⟨f0, f1⟩) ?_
  clear hK K
  try simp only [Act.put, List.setIfInBounds_toArray, List.set_cons_zero, List.set_cons_succ]
  refine upto_two 5 6 (by kernel_rfl) rfl rfl (fun K hK => ?_) (fun K hK => ?_)
  · go_simp
    refine hK.out _ _ (fun h => absurd h (by decide)) ?_
    clear hK K
    try simp only [Act.put, List.setIfInBounds_toArray, List.set_cons_zero, List.set_cons_succ]
    refine upto_two 6 7 (by kernel_rfl) rfl rfl (fun K hK => ?_) (fun K hK => ?_)
    · go_simp
      refine hK.out _ _ (fun h => absurd h (by decide)) ?_
      clear hK K
      try simp only [Act.put, List.setIfInBounds_toArray, List.set_cons_zero, List.set_cons_succ]
      refine upto_one 7 (by kernel_rfl) rfl (fun K hK => ?_)
      go_simp
      refine hK.out _ _ (fun h => absurd h (by decide)) ?_
      clear hK K
      try simp only [Act.put, List.setIfInBounds_toArray, List.set_cons_zero, List.set_cons_succ]
      refine upto_one 8 (by kernel_rfl) rfl (fun K hK => ?_)
      go_simp
      refine hK.out _ _ (fun h => absurd h (by decide)) ?_
      clear hK K
      try simp only [Act.put, List.setIfInBounds_toArray, List.set_cons_zero, List.set_cons_succ]
      refine upto_done (by kernel_rfl) ?_
      have HM := hide (HU4.out.setVar (.int .i64 2) (.slice o4 1 k4) (fun _ => HFR.out.sep HL3.out) f0 f1)
      obtain ⟨g0, g1, -, -⟩ := (HBX.out.later HB4.out HL1.out).write (.int .i64 2) (.slice o4 1 k4)
      have HB5 := hide ((HBE.out.trans (HB4.out.mono HBE.out.size)).setCell (p := ⟨w1.heap.size, 0, none⟩) (by exact HLE.out) (.int .i64 2) |>.setCell (p := ⟨w1.heap.size, 1, none⟩) (by exact HLE.out) (.slice o4 1 k4))
      clear HU4 HFR HBX HB4 HB3 f0 f1 x0 x1 e0 e1 c0 c1 z0 z1 hHeld
      try rw [show ([[2, 4]] : List (List Int)).length = 1 from rfl]
      generalize ((w4.setCell ⟨w1.heap.size, 0, none⟩ (.int .i64 2)).setCell ⟨w1.heap.size, 1, none⟩ (.slice o4 1 k4)) = W5 at *
      obtain ⟨ob, ooff, ocap, e, olt, uv, cv, hv⟩ := HM.out.at 0 (by decide)
      simp only [Value.slice.injEq, true_and] at e
      obtain ⟨rfl, rfl⟩ := e
      rw [Nat.add_zero] at cv
      have HTX : Hid (Calls Tryz.prog 50 #[uv] W5 fun e w' => e = .returned (.string ⟨#[40, 50, 32, 52, 41]⟩) ∧ Below W5.heap.size W5 w') := by
        have := vtext_any W5 uv [2, 4] _ (HT.out.below HB5.out) hv (by decide) (by decide) (by decide) (by
          rw [List.map_cons, List.map_cons, List.map_nil, txt_2, txt_4]
          decide)
        rw [text24] at this
        exact this
      obtain ⟨vo, vcap, rfl, -, -⟩ := hv
      go_wp2_with fail
      refine HTX.out.mono ?_
      rintro e w6 ⟨rfl, hb6⟩
      have HB6 := hide (HB5.out.trans (hb6.mono HB5.out.size))
      clear hb6 HTX HB5 HM cv g0 g1
      go_wp2
      go_ret
      exact ⟨rfl, HB6.out⟩
    · go_simp
      refine hK.out _ _ (fun h => absurd h (by decide)) ?_
      clear hK K
      try simp only [Act.put, List.setIfInBounds_toArray, List.set_cons_zero, List.set_cons_succ]
      refine upto_one 6 (by kernel_rfl) rfl (fun K hK => ?_)
      go_simp
      refine hK.out _ _ (fun h => absurd h (by decide)) ?_
      clear hK K
      try simp only [Act.put, List.setIfInBounds_toArray, List.set_cons_zero, List.set_cons_succ]
      refine upto_one 8 (by kernel_rfl) rfl (fun K hK => ?_)
      go_simp
      refine hK.out _ _ (fun h => absurd h (by decide)) ?_
      clear hK K
      try simp only [Act.put, List.setIfInBounds_toArray, List.set_cons_zero, List.set_cons_succ]
      refine upto_done (by kernel_rfl) ?_
      have HM := hide (HU4.out.setVar (.int .i64 2) (.slice o4 1 k4) (fun _ => HFR.out.sep HL3.out) f0 f1)
      obtain ⟨g0, g1, -, -⟩ := (HBX.out.later HB4.out HL1.out).write (.int .i64 2) (.slice o4 1 k4)
      have HB5 := hide ((HBE.out.trans (HB4.out.mono HBE.out.size)).setCell (p := ⟨w1.heap.size, 0, none⟩) (by exact HLE.out) (.int .i64 2) |>.setCell (p := ⟨w1.heap.size, 1, none⟩) (by exact HLE.out) (.slice o4 1 k4))
      clear HU4 HFR HBX HB4 HB3 f0 f1 x0 x1 e0 e1 c0 c1 z0 z1 hHeld
      try rw [show ([[2, 4]] : List (List Int)).length = 1 from rfl]
      generalize ((w4.setCell ⟨w1.heap.size, 0, none⟩ (.int .i64 2)).setCell ⟨w1.heap.size, 1, none⟩ (.slice o4 1 k4)) = W5 at *
      obtain ⟨ob, ooff, ocap, e, olt, uv, cv, hv⟩ := HM.out.at 0 (by decide)
      simp only [Value.slice.injEq, true_and] at e
      obtain ⟨rfl, rfl⟩ := e
      rw [Nat.add_zero] at cv
      have HTX : Hid (Calls Tryz.prog 50 #[uv] W5 fun e w' => e = .returned (.string ⟨#[40, 50, 32, 52, 41]⟩) ∧ Below W5.heap.size W5 w') := by
        have := vtext_any W5 uv [2, 4] _ (HT.out.below HB5.out) hv (by decide) (by decide) (by decide) (by
          rw [List.map_cons, List.map_cons, List.map_nil, txt_2, txt_4]
          decide)
        rw [text24] at this
        exact this
      obtain ⟨vo, vcap, rfl, -, -⟩ := hv
      go_wp2_with fail
      refine HTX.out.mono ?_
      rintro e w6 ⟨rfl, hb6⟩
      have HB6 := hide (HB5.out.trans (hb6.mono HB5.out.size))
      clear hb6 HTX HB5 HM cv g0 g1
      go_wp2
      go_ret
      exact ⟨rfl, HB6.out⟩
  · go_simp
    refine hK.out _ _ (fun h => absurd h (by decide)) ?_
    clear hK K
    try simp only [Act.put, List.setIfInBounds_toArray, List.set_cons_zero, List.set_cons_succ]
    refine upto_one 5 (by kernel_rfl) rfl (fun K hK => ?_)
    go_simp
    refine hK.out _ _ (fun h => absurd h (by decide)) ?_
    clear hK K
    try simp only [Act.put, List.setIfInBounds_toArray, List.set_cons_zero, List.set_cons_succ]
    refine upto_one 7 (by kernel_rfl) rfl (fun K hK => ?_)
    go_simp
    refine hK.out _ _ (fun h => absurd h (by decide)) ?_
    clear hK K
    try simp only [Act.put, List.setIfInBounds_toArray, List.set_cons_zero, List.set_cons_succ]
    refine upto_one 8 (by kernel_rfl) rfl (fun K hK => ?_)
    go_simp
    refine hK.out _ _ (fun h => absurd h (by decide)) ?_
    clear hK K
    try simp only [Act.put, List.setIfInBounds_toArray, List.set_cons_zero, List.set_cons_succ]
    refine upto_done (by kernel_rfl) ?_
    have HM := hide (HU4.out.setVar (.int .i64 2) (.slice o4 1 k4) (fun _ => HFR.out.sep HL3.out) f0 f1)
    obtain ⟨g0, g1, -, -⟩ := (HBX.out.later HB4.out HL1.out).write (.int .i64 2) (.slice o4 1 k4)
    have HB5 := hide ((HBE.out.trans (HB4.out.mono HBE.out.size)).setCell (p := ⟨w1.heap.size, 0, none⟩) (by exact HLE.out) (.int .i64 2) |>.setCell (p := ⟨w1.heap.size, 1, none⟩) (by exact HLE.out) (.slice o4 1 k4))
    clear HU4 HFR HBX HB4 HB3 f0 f1 x0 x1 e0 e1 c0 c1 z0 z1 hHeld
    try rw [show ([[2, 4]] : List (List Int)).length = 1 from rfl]
    generalize ((w4.setCell ⟨w1.heap.size, 0, none⟩ (.int .i64 2)).setCell ⟨w1.heap.size, 1, none⟩ (.slice o4 1 k4)) = W5 at *
    obtain ⟨ob, ooff, ocap, e, olt, uv, cv, hv⟩ := HM.out.at 0 (by decide)
    simp only [Value.slice.injEq, true_and] at e
    obtain ⟨rfl, rfl⟩ := e
    rw [Nat.add_zero] at cv
    have HTX : Hid (Calls Tryz.prog 50 #[uv] W5 fun e w' => e = .returned (.string ⟨#[40, 50, 32, 52, 41]⟩) ∧ Below W5.heap.size W5 w') := by
      have := vtext_any W5 uv [2, 4] _ (HT.out.below HB5.out) hv (by decide) (by decide) (by decide) (by
        rw [List.map_cons, List.map_cons, List.map_nil, txt_2, txt_4]
        decide)
      rw [text24] at this
      exact this
    obtain ⟨vo, vcap, rfl, -, -⟩ := hv
    go_wp2_with fail
    refine HTX.out.mono ?_
    rintro e w6 ⟨rfl, hb6⟩
    have HB6 := hide (HB5.out.trans (hb6.mono HB5.out.size))
    clear hb6 HTX HB5 HM cv g0 g1
    go_wp2
    go_ret
    exact ⟨rfl, HB6.out⟩

end Go.Proofs.YtdedolkgcdlmeaaGreatDoor
