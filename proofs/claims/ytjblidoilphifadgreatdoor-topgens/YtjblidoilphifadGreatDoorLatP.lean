/- TopGens: in whichever order vectors are put in, the lattice is the same. -/
import Derived.Test.YtjblidoilphifadGreatDoorLatO
namespace Go.Proofs.YtjblidoilphifadGreatDoor
open Go.RowKit Limbs Digs

theorem good_parts {nI : Int} {rs : List (List Int)} (h : goodG nI rs = true) : (1 ≤ nI ∧ nI ≤ 4 ∧ rs.length ≤ 8) ∧ ∀ r ∈ rs, goodRow nI r = true := by
  unfold goodG at h
  rw [Bool.and_eq_true, decide_eq_true_eq, List.all_eq_true] at h
  exact h

theorem back_again {q N : Nat} (h : q < N) (h8 : N ≤ 8) : (IntKind.i64.wrap ((q : Int) + (N : Int))).tmod (N : Int) = (q : Int) := by
  have hw : IntKind.i64.wrap ((q : Int) + (N : Int)) = (q : Int) + (N : Int) := by rw [IntKind.wrap_i64]; omega
  rw [hw, Int.tmod_eq_emod_of_nonneg (by omega), Int.add_emod_right, Int.emod_eq_of_lt (by omega) (by omega)]

theorem turn_mod {k t N : Nat} (h : k < N) : ((N : Int) - 1 - (k : Int) + (t : Int)).tmod (N : Int) = (((N - 1 - k + t) % N : Nat) : Int) := by
  rw [Int.tmod_eq_emod_of_nonneg (by omega), Int.natCast_emod]
  congr 1
  omega

set_option linter.unusedSimpArgs false in
set_option maxRecDepth 100000 in
set_option maxHeartbeats 6400000 in
theorem topGens_any (w : World) (ht : Tab w) (nI : Int) (go : Option Addr) (gcap : Nat) (rs : List (List Int)) (hv : RowsS w (.slice go rs.length gcap) rs) (turn again : Int) :
    Calls Tryz.prog 6 #[.agg #[.int .i64 nI, .slice go rs.length gcap], .int .i64 turn, .int .i64 again] w fun e w' => e = .returned (.bool true) ∧ Below w.heap.size w w' := by
  have HT := hide ht; have HV := hide hv
  clear ht hv
  have HBX := hide (box_new w (.int .i64 nI) (.slice go rs.length gcap) 57 _ rfl)
  have HB0 := hide ((Below.refl w.heap.size w).alloc (Nat.le_refl _) (.cells #[.int .i64 nI, .slice go rs.length gcap] 57))
  have HL0 : Hid (w.heap.size < (w.alloc (.cells #[.int .i64 nI, .slice go rs.length gcap] 57)).heap.size) := by show _ < _; simp
  go_enter Tryz.func6, Tryz.ntmps6
  go_wp2_with fail
  generalize w.alloc (.cells #[.int .i64 nI, .slice go rs.length gcap] 57) = WA at *
  refine (ready_any WA (HT.out.below HB0.out)).mono ?_
  rintro e w1 ⟨rfl, hb1⟩
  have HB1 := hide (HB0.out.trans (hb1.mono HB0.out.size))
  have HX1 := hide (HBX.out.later hb1 HL0.out)
  have HL1 := hide (Nat.lt_of_lt_of_le HL0.out hb1.size)
  obtain ⟨c0, c1, z0, z1⟩ := HX1.out
  clear hb1 HBX HB0 HL0 HT
  go_wp2_with fail
  refine (made_any w1 nI go gcap rs (HV.out.below HB1.out)).mono ?_
  rintro e w2 ⟨hb2, hcase⟩
  have HB2 := hide (HB1.out.trans (hb2.mono HB1.out.size))
  have HX2 := hide (HX1.out.later hb2 HL1.out)
  have HL2 := hide (Nat.lt_of_lt_of_le HL1.out hb2.size)
  clear hb2 c0 c1 z0 z1 HX1 HL1 HB1
  rcases hcase with ⟨-, rfl⟩ | ⟨hgood, ub, mv, hsb, rfl, hL, hA⟩
  · have HB3 := hide (HB2.out.alloc HB2.out.size (.cells #[.int .i64 0, .slice none 0 0] 25))
    obtain ⟨c0, c1, z0, z1⟩ := HX2.out.later ((Below.refl w2.heap.size w2).alloc (Nat.le_refl _) (.cells #[.int .i64 0, .slice none 0 0] 25)) HL2.out
    clear HX2 HL2 HB2
    go_wp2
    go_ret
    exact ⟨rfl, HB3.out⟩
  · obtain ⟨⟨h1', h4', h8⟩, hrows⟩ := good_parts hgood
    have HROWS := hide hrows
    obtain ⟨n, rfl⟩ := Int.eq_ofNat_of_zero_le (show 0 ≤ nI by omega)
    have h1 : 1 ≤ n := by omega
    have h4 : n ≤ 4 := by omega
    rw [Int.toNat_natCast] at hL hA
    have HLB := hide hL; have HAB := hide hA
    obtain ⟨⟨ub', e, ⟨bo, bc, rfl, -, -⟩⟩, -⟩ := hL
    simp only [Value.agg.injEq, Array.mk.injEq, List.cons.injEq, and_true, true_and] at e
    subst e
    have hNB := nb6 n (by omega)
    have HBB := hide ((Below.refl w2.heap.size w2).alloc (Nat.le_refl _) (.cells #[.int .i64 (n : Int), .slice bo hsb.length bc] 25))
    have HBV := hide (box_new w2 (.int .i64 (n : Int)) (.slice bo hsb.length bc) 25 _ rfl)
    have HX3 := hide (HX2.out.later HBB.out HL2.out)
    have HB3 := hide (HB2.out.trans (HBB.out.mono HB2.out.size))
    have HL3 : Hid (w2.heap.size < (w2.alloc (.cells #[.int .i64 (n : Int), .slice bo hsb.length bc] 25)).heap.size) := by show _ < _; simp
    have HLB3 := hide (HLB.out.below HBB.out)
    obtain ⟨c0, c1, z0, z1⟩ := HX3.out
    clear hgood hrows hA HX2 HBB HLB HB2
    by_cases h0 : rs.length = 0
    · have g1 : decide ((rs.length : Int) = 0) = true := decide_eq_true (by omega)
      have g2 : ((rs.length : Int) == 0) = true := by rw [h0]; rfl
      go_wp2
      go_ret
      exact ⟨rfl, HB3.out⟩
    · have g1 : ((rs.length : Int) == 0) = false := beq_false_of_ne (by omega)
      have g2 : decide ((rs.length : Int) = 0) = false := decide_eq_false (by omega)
      have g3 : ¬ ((rs.length : Int) = 0) := by omega
      go_wp2_with fail
      generalize w2.alloc (.cells #[.int .i64 (n : Int), .slice bo hsb.length bc] 25) = WB at *
      refine (newL_ok WB n 6 h1 h4).mono ?_
      rintro e W0 ⟨rfl, -, hb⟩
      have HG0 := hide (HX3.out.later hb (by have := HL3.out; have := HL2.out; omega))
      have HBV0 := hide (HBV.out.later hb HL3.out)
      have HGL := hide (Nat.lt_of_lt_of_le HL3.out hb.size)
      have HW0 := hide (HB3.out.trans (hb.mono HB3.out.size))
      have HLB0 := hide (HLB3.out.below hb)
      have HS := hide (PutI.start (W0 := W0) n)
      obtain ⟨t, ht1, ht2⟩ : ∃ t : Nat, bits .and .i64 turn 1023 = (t : Int) ∧ t < 1024 := ⟨(turn % 1024).toNat, by rw [and1023]; omega, by omega⟩
      obtain ⟨a, ha1, ha2⟩ := place again rs.length (by omega)
      have HA1 := hide ha1; have HT1 := hide ht1
      clear hb c0 c1 z0 z1 HX3 HBV HL3 HB3 HLB3 ha1 ht1
      go_wp2
      generalize (W0.alloc (.cells #[.int .i64 (n : Int), .slice none 0 0] 25)) = WC at *
      go_loopw [12, 13] (fun err i wr => ∃ (k : Nat) (u : Value) (hs : List (List Int)), k ≤ rs.length + 1 ∧ i = .int .i64 k ∧ err = .nilIface ∧ Hid (PutI W0 wr n (came rs t a k) u hs)) (fun _ i _ => rs.length + 1 - (intOf i).toNat)
      case atStart => exact ⟨0, _, [], Nat.zero_le _, rfl, rfl, HS⟩
      case round =>
        clear HS
        obtain ⟨k, u, hs, hk, rfl, rfl, HI⟩ := hrel
        obtain ⟨uo, uc, rfl, -, -⟩ := HI.out.mat
        have HBW := hide (HW0.out.trans (HI.out.below.mono HW0.out.size))
        have hGW : w.heap.size < W0.heap.size := by have := HL2.out; have := HGL.out; omega
        obtain ⟨c0, c1, z0, z1⟩ := HG0.out.later HI.out.below hGW
        by_cases hkl : k ≤ rs.length
        · have hq := turnAt_lt (t := t) (i := k) (show 0 < rs.length by omega) ha2
          have HCA := hide (came_snoc rs t a k)
          have HTA : Hid (turnAt rs.length t a k = if k = rs.length then a else (rs.length - 1 - k + t) % rs.length) := rfl
          generalize turnAt rs.length t a k = q at *
          obtain ⟨b, off, _, e, hlt, x, cuw, hxw⟩ := HV.out.at q hq
          simp only [Value.slice.injEq, true_and] at e
          obtain ⟨rfl, rfl⟩ := e
          have HGK := hide (HROWS.out _ (List.getElem_mem hq))
          rw [getD_row hq] at HCA
          generalize rs[q] = rk at *
          have HX5 := hide (hxw.below HBW.out (Nat.le_refl _))
          obtain ⟨xo, xcap, rfl, -, -, -⟩ := hxw
          have hl8k : rk.length ≤ 1000 := by have := (goodRow_true.1 HGK.out).1; omega
          have HLK : Hid (rk.length = n) := by have := (goodRow_true.1 HGK.out).1; show _ = _; omega
          have p2 := (HBW.out.cell (p := ⟨b, off + q, none⟩) hlt).trans cuw
          obtain ⟨⟨p3, p4, f3, f4⟩, -⟩ := HI.out.var
          have hG5 : w.heap.size < wr.heap.size := by have := HI.out.below.size; omega
          have hb5 : b < wr.heap.size := by omega
          have hv5 : W0.heap.size < wr.heap.size := HI.out.var.lt
          have hF := back_again hq h8
          have hn1 : ¬ (W0.heap.size = w.heap.size) := by omega
          have hn2 : ¬ (w.heap.size = W0.heap.size) := by omega
          clear cuw
          by_cases hkn : k = rs.length
          · have ha1 := HA1.out
            have ht1 := HT1.out
            have hqa : q = a := by rw [HTA.out, if_pos hkn]
            subst hqa
            have g4 : ((k : Int) == (rs.length : Int)) = true := by rw [hkn]; exact beq_self_eq_true _
            have g5 : decide ((k : Int) = (rs.length : Int)) = true := decide_eq_true (by omega)
            go_wp2_with fail
            refine upto_start (S := (fun w' => w'.cell? ⟨w.heap.size, 0, none⟩ = some (.int .i64 (n : Int)) ∧ w'.cell? ⟨w.heap.size, 1, none⟩ = some (.slice (some ⟨b, off, none⟩) rs.length gcap) ∧ w'.cell? ⟨b, off + q, none⟩ = some (.slice xo rk.length xcap) ∧ w'.cell? ⟨W0.heap.size, 0, none⟩ = some (.int .i64 (n : Int)) ∧ w'.cell? ⟨W0.heap.size, 1, none⟩ = some (.slice uo hs.length uc))) (k := 13) (by kernel_rfl) (by (try dsimp only); go_keep) (fun hHeld => ?_)
            refine upto_run (v := ?_) 0 63 [11, 12, 13, 14, 15, 16] rfl rfl (by kernel_rfl) (by kernel_rfl) (by kernel_rfl) (by kernel_rfl) (by kernel_rfl) (fun _ _ _ h => h) (by rfl) ?_ (by assumption) ?_
            rotate_left
            · (intro w hSw; (try dsimp only at hSw); go_simp; with_reducible rfl)
            simp only [Act.put, List.setIfInBounds_toArray, List.set_cons_zero, List.set_cons_succ]
            refine upto_run (v := ?_) 1 64 [2, 8, 9, 10, 11, 12, 13, 14, 15, 16] rfl rfl (by kernel_rfl) (by kernel_rfl) (by kernel_rfl) (by kernel_rfl) (by kernel_rfl) (fun _ _ _ h => h) (by rfl) ?_ (by assumption) ?_
            rotate_left
            · (intro w hSw; (try dsimp only at hSw); go_simp; with_reducible rfl)
            simp only [Act.put, List.setIfInBounds_toArray, List.set_cons_zero, List.set_cons_succ]
            refine upto_run (v := ?_) 2 65 [8, 9, 10, 11, 12, 13, 14, 15, 16] rfl rfl (by kernel_rfl) (by kernel_rfl) (by kernel_rfl) (by kernel_rfl) (by kernel_rfl) (fun _ _ _ h => h) (by rfl) ?_ (by assumption) ?_
            rotate_left
            · (intro w hSw; (try dsimp only at hSw); go_simp; with_reducible rfl)
            simp only [Act.put, List.setIfInBounds_toArray, List.set_cons_zero, List.set_cons_succ]
            refine upto_run (v := ?_) 3 66 [5, 7, 8, 9, 10, 11, 12, 13, 14, 15, 16] rfl rfl (by kernel_rfl) (by kernel_rfl) (by kernel_rfl) (by kernel_rfl) (by kernel_rfl) (fun _ _ _ h => h) (by rfl) ?_ (by assumption) ?_
            rotate_left
            · (intro w hSw; (try dsimp only at hSw); go_simp; with_reducible rfl)
            simp only [Act.put, List.setIfInBounds_toArray, List.set_cons_zero, List.set_cons_succ]
            refine upto_run (v := ?_) 4 67 [5, 7, 8, 9, 10, 11, 12, 13, 14, 15, 16] rfl rfl (by kernel_rfl) (by kernel_rfl) (by kernel_rfl) (by kernel_rfl) (by kernel_rfl) (fun _ _ _ h => h) (by rfl) ?_ (by assumption) ?_
            rotate_left
            · (intro w hSw; (try dsimp only at hSw); go_simp; with_reducible rfl)
            simp only [Act.put, List.setIfInBounds_toArray, List.set_cons_zero, List.set_cons_succ]
            refine upto_run (v := ?_) 5 68 [7, 8, 9, 10, 11, 12, 13, 14, 15, 16] rfl rfl (by kernel_rfl) (by kernel_rfl) (by kernel_rfl) (by kernel_rfl) (by kernel_rfl) (fun _ _ _ h => h) (by rfl) ?_ (by assumption) ?_
            rotate_left
            · (intro w hSw; (try dsimp only at hSw); go_simp; with_reducible rfl)
            simp only [Act.put, List.setIfInBounds_toArray, List.set_cons_zero, List.set_cons_succ]
            refine upto_run (v := ?_) 6 69 [7, 8, 9, 10, 11, 12, 13, 14, 15, 16] rfl rfl (by kernel_rfl) (by kernel_rfl) (by kernel_rfl) (by kernel_rfl) (by kernel_rfl) (fun _ _ _ h => h) (by rfl) ?_ (by assumption) ?_
            rotate_left
            · (intro w hSw; (try dsimp only at hSw); go_simp; with_reducible rfl)
            simp only [Act.put, List.setIfInBounds_toArray, List.set_cons_zero, List.set_cons_succ]
            refine upto_run (v := ?_) 7 70 [8, 9, 10, 11, 12, 13, 14, 15, 16] rfl rfl (by kernel_rfl) (by kernel_rfl) (by kernel_rfl) (by kernel_rfl) (by kernel_rfl) (fun _ _ _ h => h) (by rfl) ?_ (by assumption) ?_
            rotate_left
            · (intro w hSw; (try dsimp only at hSw); go_simp; with_reducible rfl)
            simp only [Act.put, List.setIfInBounds_toArray, List.set_cons_zero, List.set_cons_succ]
            refine upto_run (v := ?_) 8 71 [9, 10, 11, 12, 13, 14, 15, 16] rfl rfl (by kernel_rfl) (by kernel_rfl) (by kernel_rfl) (by kernel_rfl) (by kernel_rfl) (fun _ _ _ h => h) (by rfl) ?_ (by assumption) ?_
            rotate_left
            · (intro w hSw; (try dsimp only at hSw); go_simp; with_reducible rfl)
            simp only [Act.put, List.setIfInBounds_toArray, List.set_cons_zero, List.set_cons_succ]
            refine upto_run (v := ?_) 9 72 [10, 11, 12, 13, 14, 15, 16] rfl rfl (by kernel_rfl) (by kernel_rfl) (by kernel_rfl) (by kernel_rfl) (by kernel_rfl) (fun _ _ _ h => h) (by rfl) ?_ (by assumption) ?_
            rotate_left
            · (intro w hSw; (try dsimp only at hSw); go_simp; with_reducible rfl)
            simp only [Act.put, List.setIfInBounds_toArray, List.set_cons_zero, List.set_cons_succ]
            refine upto_one 10 (by kernel_rfl) rfl (fun K hK => ?_)
            go_simp
            (refine (ofV_any _ _ rk (by exact HX5.out.below (Below.refl _ _).drew (Nat.le_refl _)) hl8k).mono ?_; rintro e w6 ⟨P, rfl, ho⟩; have HB6 := hide (show Below wr.heap.size wr w6 from (Below.refl _ _).drew.trans ho.below); have HI6 := hide (HI.out.later HB6.out); have HV6 := hide ho.vec; have q0 := (HB6.out.cell (p := ⟨w.heap.size, 0, none⟩) hG5).trans c0; have q1 := (HB6.out.cell (p := ⟨w.heap.size, 1, none⟩) hG5).trans c1; have q2 := (HB6.out.cell (p := ⟨b, off + q, none⟩) hb5).trans p2; have q3 := (HB6.out.cell (p := ⟨W0.heap.size, 0, none⟩) hv5).trans p3; have q4 := (HB6.out.cell (p := ⟨W0.heap.size, 1, none⟩) hv5).trans p4; clear ho)
            go_wp2_with fail
            refine hK.out _ _ (fun _ => by (try dsimp only); go_keep) ?_
            clear hK K
            try simp only [Act.put, List.setIfInBounds_toArray, List.set_cons_zero, List.set_cons_succ]
            refine upto_one 11 (by kernel_rfl) rfl (fun K hK => ?_)
            go_simp
            (refine (insertL_ok _ _ _ n 6 hs rk (by exact ⟨⟨_, rfl, HI6.out.mat⟩, HI6.out.form⟩) (by exact HV6.out.mono (show 2 ≤ 6 by decide)) HLK.out h1 h4 hNB).mono ?_; rintro e w7 ⟨v7, hs7, rfl, ⟨⟨u7, rfl, hu7⟩, hF7⟩, hb7, hA7, hfr7⟩; have HI7 := hide (HI6.out.later hb7); have HF7 := hide hF7; have HA7 := hide hA7; have HFR := hide (hfr7 _ rfl); have HU7 := hide hu7; obtain ⟨o7, c7, rfl, -, -⟩ := hu7; have s0 := (hb7.cell (p := ⟨w.heap.size, 0, none⟩) (Nat.lt_of_lt_of_le hG5 HB6.out.size)).trans q0; have s1 := (hb7.cell (p := ⟨w.heap.size, 1, none⟩) (Nat.lt_of_lt_of_le hG5 HB6.out.size)).trans q1; have s2 := (hb7.cell (p := ⟨b, off + q, none⟩) (Nat.lt_of_lt_of_le hb5 HB6.out.size)).trans q2; obtain ⟨⟨s3, s4, f3', f4'⟩, -⟩ := HI7.out.var; clear hb7 hF7 hA7 hfr7)
            go_wp2_with fail
            refine hK.out _ _ (fun _ => by (try dsimp only); go_keep) ?_
            clear hK K
            try simp only [Act.put, List.setIfInBounds_toArray, List.set_cons_zero, List.set_cons_succ]
            refine upto_one 12 (by kernel_rfl) rfl (fun K hK => ?_)
            go_simp
            refine hK.out _ _ (fun _ => by (try dsimp only); go_keep) ?_
            clear hK K
            try simp only [Act.put, List.setIfInBounds_toArray, List.set_cons_zero, List.set_cons_succ]
            refine upto_two 13 14 (by kernel_rfl) rfl rfl (fun K hK => ?_) (fun K hK => ?_)
            · go_simp
              refine hK.out _ _ (fun h => absurd h (by decide)) ?_
              clear hK K
              try simp only [Act.put, List.setIfInBounds_toArray, List.set_cons_zero, List.set_cons_succ]
              refine upto_two 14 15 (by kernel_rfl) rfl rfl (fun K hK => ?_) (fun K hK => ?_)
              · go_simp
                refine hK.out _ _ (fun h => absurd h (by decide)) ?_
                clear hK K
                try simp only [Act.put, List.setIfInBounds_toArray, List.set_cons_zero, List.set_cons_succ]
                refine upto_one 15 (by kernel_rfl) rfl (fun K hK => ?_)
                go_simp
                refine hK.out _ _ (fun h => absurd h (by decide)) ?_
                clear hK K
                try simp only [Act.put, List.setIfInBounds_toArray, List.set_cons_zero, List.set_cons_succ]
                refine upto_one 16 (by kernel_rfl) rfl (fun K hK => ?_)
                go_simp
                refine hK.out _ _ (fun h => absurd h (by decide)) ?_
                clear hK K
                try simp only [Act.put, List.setIfInBounds_toArray, List.set_cons_zero, List.set_cons_succ]
                refine upto_done (by kernel_rfl) ?_
                have HI8 := hide (HI7.out.put HGK.out h4 HU7.out HF7.out HA7.out HFR.out HI6.out.var.lt ⟨_, _, _, rfl⟩)
                rw [← HCA.out] at HI8
                clear HI7 HI6 HI HU7 HF7 HA7 HFR hHeld p2 p3 p4 q0 q1 q2 q3 q4 s0 s1 s2 s3 s4 c0 c1 z0 z1 hF HX5
                go_wp2
                go_roundw
                case rel => exact ⟨k + 1, _, _, by omega, by go_num, rfl, HI8⟩
                case measure => simp [intOf]; omega
              · go_simp
                refine hK.out _ _ (fun h => absurd h (by decide)) ?_
                clear hK K
                try simp only [Act.put, List.setIfInBounds_toArray, List.set_cons_zero, List.set_cons_succ]
                refine upto_one 14 (by kernel_rfl) rfl (fun K hK => ?_)
                go_simp
                refine hK.out _ _ (fun h => absurd h (by decide)) ?_
                clear hK K
                try simp only [Act.put, List.setIfInBounds_toArray, List.set_cons_zero, List.set_cons_succ]
                refine upto_one 16 (by kernel_rfl) rfl (fun K hK => ?_)
                go_simp
                refine hK.out _ _ (fun h => absurd h (by decide)) ?_
                clear hK K
                try simp only [Act.put, List.setIfInBounds_toArray, List.set_cons_zero, List.set_cons_succ]
                refine upto_done (by kernel_rfl) ?_
                have HI8 := hide (HI7.out.put HGK.out h4 HU7.out HF7.out HA7.out HFR.out HI6.out.var.lt ⟨_, _, _, rfl⟩)
                rw [← HCA.out] at HI8
                clear HI7 HI6 HI HU7 HF7 HA7 HFR hHeld p2 p3 p4 q0 q1 q2 q3 q4 s0 s1 s2 s3 s4 c0 c1 z0 z1 hF HX5
                go_wp2
                go_roundw
                case rel => exact ⟨k + 1, _, _, by omega, by go_num, rfl, HI8⟩
                case measure => simp [intOf]; omega
            · go_simp
              refine hK.out _ _ (fun h => absurd h (by decide)) ?_
              clear hK K
              try simp only [Act.put, List.setIfInBounds_toArray, List.set_cons_zero, List.set_cons_succ]
              refine upto_one 13 (by kernel_rfl) rfl (fun K hK => ?_)
              go_simp
              refine hK.out _ _ (fun h => absurd h (by decide)) ?_
              clear hK K
              try simp only [Act.put, List.setIfInBounds_toArray, List.set_cons_zero, List.set_cons_succ]
              refine upto_one 15 (by kernel_rfl) rfl (fun K hK => ?_)
              go_simp
              refine hK.out _ _ (fun h => absurd h (by decide)) ?_
              clear hK K
              try simp only [Act.put, List.setIfInBounds_toArray, List.set_cons_zero, List.set_cons_succ]
              refine upto_one 16 (by kernel_rfl) rfl (fun K hK => ?_)
              go_simp
              refine hK.out _ _ (fun h => absurd h (by decide)) ?_
              clear hK K
              try simp only [Act.put, List.setIfInBounds_toArray, List.set_cons_zero, List.set_cons_succ]
              refine upto_done (by kernel_rfl) ?_
              have HI8 := hide (HI7.out.put HGK.out h4 HU7.out HF7.out HA7.out HFR.out HI6.out.var.lt ⟨_, _, _, rfl⟩)
              rw [← HCA.out] at HI8
              clear HI7 HI6 HI HU7 HF7 HA7 HFR hHeld p2 p3 p4 q0 q1 q2 q3 q4 s0 s1 s2 s3 s4 c0 c1 z0 z1 hF HX5
              go_wp2
              go_roundw
              case rel => exact ⟨k + 1, _, _, by omega, by go_num, rfl, HI8⟩
              case measure => simp [intOf]; omega
          · have hE := turn_mod (t := t) (show k < rs.length by omega)
            have ht1 := HT1.out
            have hqa : (rs.length - 1 - k + t) % rs.length = q := by rw [HTA.out, if_neg hkn]
            rw [hqa] at hE
            have g4 : ((k : Int) == (rs.length : Int)) = false := beq_false_of_ne (by omega)
            have g5 : decide ((k : Int) = (rs.length : Int)) = false := decide_eq_false (by omega)
            have g6 : ¬ ((k : Int) = (rs.length : Int)) := by omega
            clear hqa
            go_wp2_with fail
            refine upto_start (S := (fun w' => w'.cell? ⟨w.heap.size, 0, none⟩ = some (.int .i64 (n : Int)) ∧ w'.cell? ⟨w.heap.size, 1, none⟩ = some (.slice (some ⟨b, off, none⟩) rs.length gcap) ∧ w'.cell? ⟨b, off + q, none⟩ = some (.slice xo rk.length xcap) ∧ w'.cell? ⟨W0.heap.size, 0, none⟩ = some (.int .i64 (n : Int)) ∧ w'.cell? ⟨W0.heap.size, 1, none⟩ = some (.slice uo hs.length uc))) (k := 13) (by kernel_rfl) (by (try dsimp only); go_keep) (fun hHeld => ?_)
            refine upto_run (v := ?_) 0 63 [11, 12, 13, 14, 15, 16] rfl rfl (by kernel_rfl) (by kernel_rfl) (by kernel_rfl) (by kernel_rfl) (by kernel_rfl) (fun _ _ _ h => h) (by rfl) ?_ (by assumption) ?_
            rotate_left
            · (intro w hSw; (try dsimp only at hSw); go_simp; with_reducible rfl)
            simp only [Act.put, List.setIfInBounds_toArray, List.set_cons_zero, List.set_cons_succ]
            refine upto_run (v := ?_) 1 64 [2, 8, 9, 10, 11, 12, 13, 14, 15, 16] rfl rfl (by kernel_rfl) (by kernel_rfl) (by kernel_rfl) (by kernel_rfl) (by kernel_rfl) (fun _ _ _ h => h) (by rfl) ?_ (by assumption) ?_
            rotate_left
            · (intro w hSw; (try dsimp only at hSw); go_simp; with_reducible rfl)
            simp only [Act.put, List.setIfInBounds_toArray, List.set_cons_zero, List.set_cons_succ]
            refine upto_run (v := ?_) 2 65 [8, 9, 10, 11, 12, 13, 14, 15, 16] rfl rfl (by kernel_rfl) (by kernel_rfl) (by kernel_rfl) (by kernel_rfl) (by kernel_rfl) (fun _ _ _ h => h) (by rfl) ?_ (by assumption) ?_
            rotate_left
            · (intro w hSw; (try dsimp only at hSw); go_simp; with_reducible rfl)
            simp only [Act.put, List.setIfInBounds_toArray, List.set_cons_zero, List.set_cons_succ]
            refine upto_run (v := ?_) 3 66 [5, 7, 8, 9, 10, 11, 12, 13, 14, 15, 16] rfl rfl (by kernel_rfl) (by kernel_rfl) (by kernel_rfl) (by kernel_rfl) (by kernel_rfl) (fun _ _ _ h => h) (by rfl) ?_ (by assumption) ?_
            rotate_left
            · (intro w hSw; (try dsimp only at hSw); go_simp; with_reducible rfl)
            simp only [Act.put, List.setIfInBounds_toArray, List.set_cons_zero, List.set_cons_succ]
            refine upto_run (v := ?_) 4 67 [5, 7, 8, 9, 10, 11, 12, 13, 14, 15, 16] rfl rfl (by kernel_rfl) (by kernel_rfl) (by kernel_rfl) (by kernel_rfl) (by kernel_rfl) (fun _ _ _ h => h) (by rfl) ?_ (by assumption) ?_
            rotate_left
            · (intro w hSw; (try dsimp only at hSw); go_simp; with_reducible rfl)
            simp only [Act.put, List.setIfInBounds_toArray, List.set_cons_zero, List.set_cons_succ]
            refine upto_run (v := ?_) 5 68 [7, 8, 9, 10, 11, 12, 13, 14, 15, 16] rfl rfl (by kernel_rfl) (by kernel_rfl) (by kernel_rfl) (by kernel_rfl) (by kernel_rfl) (fun _ _ _ h => h) (by rfl) ?_ (by assumption) ?_
            rotate_left
            · (intro w hSw; (try dsimp only at hSw); go_simp; with_reducible rfl)
            simp only [Act.put, List.setIfInBounds_toArray, List.set_cons_zero, List.set_cons_succ]
            refine upto_run (v := ?_) 6 69 [7, 8, 9, 10, 11, 12, 13, 14, 15, 16] rfl rfl (by kernel_rfl) (by kernel_rfl) (by kernel_rfl) (by kernel_rfl) (by kernel_rfl) (fun _ _ _ h => h) (by rfl) ?_ (by assumption) ?_
            rotate_left
            · (intro w hSw; (try dsimp only at hSw); go_simp; with_reducible rfl)
            simp only [Act.put, List.setIfInBounds_toArray, List.set_cons_zero, List.set_cons_succ]
            refine upto_run (v := ?_) 7 70 [8, 9, 10, 11, 12, 13, 14, 15, 16] rfl rfl (by kernel_rfl) (by kernel_rfl) (by kernel_rfl) (by kernel_rfl) (by kernel_rfl) (fun _ _ _ h => h) (by rfl) ?_ (by assumption) ?_
            rotate_left
            · (intro w hSw; (try dsimp only at hSw); go_simp; with_reducible rfl)
            simp only [Act.put, List.setIfInBounds_toArray, List.set_cons_zero, List.set_cons_succ]
            refine upto_run (v := ?_) 8 71 [9, 10, 11, 12, 13, 14, 15, 16] rfl rfl (by kernel_rfl) (by kernel_rfl) (by kernel_rfl) (by kernel_rfl) (by kernel_rfl) (fun _ _ _ h => h) (by rfl) ?_ (by assumption) ?_
            rotate_left
            · (intro w hSw; (try dsimp only at hSw); go_simp; with_reducible rfl)
            simp only [Act.put, List.setIfInBounds_toArray, List.set_cons_zero, List.set_cons_succ]
            refine upto_run (v := ?_) 9 72 [10, 11, 12, 13, 14, 15, 16] rfl rfl (by kernel_rfl) (by kernel_rfl) (by kernel_rfl) (by kernel_rfl) (by kernel_rfl) (fun _ _ _ h => h) (by rfl) ?_ (by assumption) ?_
            rotate_left
            · (intro w hSw; (try dsimp only at hSw); go_simp; with_reducible rfl)
            simp only [Act.put, List.setIfInBounds_toArray, List.set_cons_zero, List.set_cons_succ]
            refine upto_one 10 (by kernel_rfl) rfl (fun K hK => ?_)
            go_simp
            (refine (ofV_any _ _ rk (by exact HX5.out.below (Below.refl _ _).drew (Nat.le_refl _)) hl8k).mono ?_; rintro e w6 ⟨P, rfl, ho⟩; have HB6 := hide (show Below wr.heap.size wr w6 from (Below.refl _ _).drew.trans ho.below); have HI6 := hide (HI.out.later HB6.out); have HV6 := hide ho.vec; have q0 := (HB6.out.cell (p := ⟨w.heap.size, 0, none⟩) hG5).trans c0; have q1 := (HB6.out.cell (p := ⟨w.heap.size, 1, none⟩) hG5).trans c1; have q2 := (HB6.out.cell (p := ⟨b, off + q, none⟩) hb5).trans p2; have q3 := (HB6.out.cell (p := ⟨W0.heap.size, 0, none⟩) hv5).trans p3; have q4 := (HB6.out.cell (p := ⟨W0.heap.size, 1, none⟩) hv5).trans p4; clear ho)
            go_wp2_with fail
            refine hK.out _ _ (fun _ => by (try dsimp only); go_keep) ?_
            clear hK K
            try simp only [Act.put, List.setIfInBounds_toArray, List.set_cons_zero, List.set_cons_succ]
            refine upto_one 11 (by kernel_rfl) rfl (fun K hK => ?_)
            go_simp
            (refine (insertL_ok _ _ _ n 6 hs rk (by exact ⟨⟨_, rfl, HI6.out.mat⟩, HI6.out.form⟩) (by exact HV6.out.mono (show 2 ≤ 6 by decide)) HLK.out h1 h4 hNB).mono ?_; rintro e w7 ⟨v7, hs7, rfl, ⟨⟨u7, rfl, hu7⟩, hF7⟩, hb7, hA7, hfr7⟩; have HI7 := hide (HI6.out.later hb7); have HF7 := hide hF7; have HA7 := hide hA7; have HFR := hide (hfr7 _ rfl); have HU7 := hide hu7; obtain ⟨o7, c7, rfl, -, -⟩ := hu7; have s0 := (hb7.cell (p := ⟨w.heap.size, 0, none⟩) (Nat.lt_of_lt_of_le hG5 HB6.out.size)).trans q0; have s1 := (hb7.cell (p := ⟨w.heap.size, 1, none⟩) (Nat.lt_of_lt_of_le hG5 HB6.out.size)).trans q1; have s2 := (hb7.cell (p := ⟨b, off + q, none⟩) (Nat.lt_of_lt_of_le hb5 HB6.out.size)).trans q2; obtain ⟨⟨s3, s4, f3', f4'⟩, -⟩ := HI7.out.var; clear hb7 hF7 hA7 hfr7)
            go_wp2_with fail
            refine hK.out _ _ (fun _ => by (try dsimp only); go_keep) ?_
            clear hK K
            try simp only [Act.put, List.setIfInBounds_toArray, List.set_cons_zero, List.set_cons_succ]
            refine upto_one 12 (by kernel_rfl) rfl (fun K hK => ?_)
            go_simp
            refine hK.out _ _ (fun _ => by (try dsimp only); go_keep) ?_
            clear hK K
            try simp only [Act.put, List.setIfInBounds_toArray, List.set_cons_zero, List.set_cons_succ]
            refine upto_two 13 14 (by kernel_rfl) rfl rfl (fun K hK => ?_) (fun K hK => ?_)
            · go_simp
              refine hK.out _ _ (fun h => absurd h (by decide)) ?_
              clear hK K
              try simp only [Act.put, List.setIfInBounds_toArray, List.set_cons_zero, List.set_cons_succ]
              refine upto_two 14 15 (by kernel_rfl) rfl rfl (fun K hK => ?_) (fun K hK => ?_)
              · go_simp
                refine hK.out _ _ (fun h => absurd h (by decide)) ?_
                clear hK K
                try simp only [Act.put, List.setIfInBounds_toArray, List.set_cons_zero, List.set_cons_succ]
                refine upto_one 15 (by kernel_rfl) rfl (fun K hK => ?_)
                go_simp
                refine hK.out _ _ (fun h => absurd h (by decide)) ?_
                clear hK K
                try simp only [Act.put, List.setIfInBounds_toArray, List.set_cons_zero, List.set_cons_succ]
                refine upto_one 16 (by kernel_rfl) rfl (fun K hK => ?_)
                go_simp
                refine hK.out _ _ (fun h => absurd h (by decide)) ?_
                clear hK K
                try simp only [Act.put, List.setIfInBounds_toArray, List.set_cons_zero, List.set_cons_succ]
                refine upto_done (by kernel_rfl) ?_
                have HI8 := hide (HI7.out.put HGK.out h4 HU7.out HF7.out HA7.out HFR.out HI6.out.var.lt ⟨_, _, _, rfl⟩)
                rw [← HCA.out] at HI8
                clear HI7 HI6 HI HU7 HF7 HA7 HFR hHeld p2 p3 p4 q0 q1 q2 q3 q4 s0 s1 s2 s3 s4 c0 c1 z0 z1 hF HX5
                go_wp2
                go_roundw
                case rel => exact ⟨k + 1, _, _, by omega, by go_num, rfl, HI8⟩
                case measure => simp [intOf]; omega
              · go_simp
                refine hK.out _ _ (fun h => absurd h (by decide)) ?_
                clear hK K
                try simp only [Act.put, List.setIfInBounds_toArray, List.set_cons_zero, List.set_cons_succ]
                refine upto_one 14 (by kernel_rfl) rfl (fun K hK => ?_)
                go_simp
                refine hK.out _ _ (fun h => absurd h (by decide)) ?_
                clear hK K
                try simp only [Act.put, List.setIfInBounds_toArray, List.set_cons_zero, List.set_cons_succ]
                refine upto_one 16 (by kernel_rfl) rfl (fun K hK => ?_)
                go_simp
                refine hK.out _ _ (fun h => absurd h (by decide)) ?_
                clear hK K
                try simp only [Act.put, List.setIfInBounds_toArray, List.set_cons_zero, List.set_cons_succ]
                refine upto_done (by kernel_rfl) ?_
                have HI8 := hide (HI7.out.put HGK.out h4 HU7.out HF7.out HA7.out HFR.out HI6.out.var.lt ⟨_, _, _, rfl⟩)
                rw [← HCA.out] at HI8
                clear HI7 HI6 HI HU7 HF7 HA7 HFR hHeld p2 p3 p4 q0 q1 q2 q3 q4 s0 s1 s2 s3 s4 c0 c1 z0 z1 hF HX5
                go_wp2
                go_roundw
                case rel => exact ⟨k + 1, _, _, by omega, by go_num, rfl, HI8⟩
                case measure => simp [intOf]; omega
            · go_simp
              refine hK.out _ _ (fun h => absurd h (by decide)) ?_
              clear hK K
              try simp only [Act.put, List.setIfInBounds_toArray, List.set_cons_zero, List.set_cons_succ]
              refine upto_one 13 (by kernel_rfl) rfl (fun K hK => ?_)
              go_simp
              refine hK.out _ _ (fun h => absurd h (by decide)) ?_
              clear hK K
              try simp only [Act.put, List.setIfInBounds_toArray, List.set_cons_zero, List.set_cons_succ]
              refine upto_one 15 (by kernel_rfl) rfl (fun K hK => ?_)
              go_simp
              refine hK.out _ _ (fun h => absurd h (by decide)) ?_
              clear hK K
              try simp only [Act.put, List.setIfInBounds_toArray, List.set_cons_zero, List.set_cons_succ]
              refine upto_one 16 (by kernel_rfl) rfl (fun K hK => ?_)
              go_simp
              refine hK.out _ _ (fun h => absurd h (by decide)) ?_
              clear hK K
              try simp only [Act.put, List.setIfInBounds_toArray, List.set_cons_zero, List.set_cons_succ]
              refine upto_done (by kernel_rfl) ?_
              have HI8 := hide (HI7.out.put HGK.out h4 HU7.out HF7.out HA7.out HFR.out HI6.out.var.lt ⟨_, _, _, rfl⟩)
              rw [← HCA.out] at HI8
              clear HI7 HI6 HI HU7 HF7 HA7 HFR hHeld p2 p3 p4 q0 q1 q2 q3 q4 s0 s1 s2 s3 s4 c0 c1 z0 z1 hF HX5
              go_wp2
              go_roundw
              case rel => exact ⟨k + 1, _, _, by omega, by go_num, rfl, HI8⟩
              case measure => simp [intOf]; omega
        · obtain rfl : k = rs.length + 1 := by omega
          have HEQ : Hid (decide (hsb = hs) = true) := by
            obtain ⟨-, p, hF⟩ := HLB0.out
            obtain ⟨p', hF'⟩ := HI.out.form
            exact decide_eq_true (formL_one hF hF' fun v => (HAB.out v).trans (((HI.out.alike v).trans (came_alikes (by omega) ha2 v)).symm))
          obtain ⟨⟨p3, p4, f3, f4⟩, -⟩ := HI.out.var
          obtain ⟨b0, b1, y0, y1⟩ := HBV0.out.later HI.out.below HGL.out
          have HLA := hide (HLB0.out.below HI.out.below)
          have g6 : ¬ (((rs.length + 1 : Nat) : Int) ≤ (rs.length : Int)) := by omega
          go_wp2_with fail
          refine (alikeB_any wr _ _ n 6 6 hsb hs (by exact HLA.out) (by exact ⟨⟨_, rfl, HI.out.mat⟩, HI.out.form⟩) (by omega)).mono ?_
          rintro e w9 ⟨rfl, hb9⟩
          rw [HEQ.out]
          have HB9 := hide (HBW.out.trans (hb9.mono HBW.out.size))
          clear hb9 HLA HEQ HI HBW
          go_wp2
          go_ret
          exact ⟨rfl, HB9.out⟩

end Go.Proofs.YtjblidoilphifadGreatDoor
