/- TopKernel, walked. -/
import Derived.Test.YtofegldopgkikaaOfN
import Derived.Test.YtofegldopgkikaaOpenM
import Derived.Test.YtofegldopgkikaaLightT
namespace Go.Proofs.Ytofegldopgkikaa
open Go.RowKit Limbs

theorem nbT : ∀ n, n < 6 → nbK n (n * (n * (n * 8 + 2) + 2) + 2) (n * (n * 8 + 2) + 2) n ≤ 100000 ∧ nbK n (n * 8 + 2) 8 n ≤ 100000 ∧ n * (n * 8 + 2) + 2 ≤ 212 ∧ ∀ r, r < 6 → nbK r (r * (n * (n * 8 + 2) + 2) + 2) (n * (n * 8 + 2) + 2) r ≤ 100000 := by decide

theorem row_ones (w : World) : RowS (w.alloc (.cells #[.int .i64 1, .int .i64 1] 3)) (.slice (some ⟨w.heap.size, 0, none⟩) 2 2) [1, 1] := by
  refine ⟨_, _, rfl, Nat.le_refl _, fun i => ?_, fun _ => ⟨_, _, rfl, by simp, fun i hi => ?_⟩⟩
  · match i with
    | 0 => simp
    | 1 => simp
    | i + 2 => simp
  · match i, hi with
    | 0, _ => rw [World.cell?_alloc_new]; rfl
    | 1, _ => rw [World.cell?_alloc_new]; rfl

theorem one_row (w : World) (va : Value) (xs : List Int) (n : Nat) (ha : VecN w va xs n) : MatN (w.alloc (.cells #[va] 29)) (.slice (some ⟨w.heap.size, 0, none⟩) 1 1) [xs] n := by
  have hbA : Below w.heap.size w (w.alloc (.cells #[va] 29)) := (Below.refl _ _).alloc (Nat.le_refl _) _
  refine ⟨_, _, rfl, Nat.le_refl _, fun _ => ⟨_, _, rfl, by simp, fun i zs hi => ?_⟩⟩
  have hlt := (List.getElem?_eq_some_iff.1 hi).1
  match i, hlt with
  | 0, _ =>
    simp only [List.getElem?_cons_zero, Option.some.injEq] at hi
    subst hi
    exact ⟨va, by rw [World.cell?_alloc_new]; rfl, ha.below hbA (Nat.le_refl _)⟩

theorem form_ones : FormL 2 [[1, 1]] (fun _ => 0) := by
  refine ⟨fun r hr => ?_, ⟨fun i k hik hk => ?_, fun i hi => ?_, fun i b hi hb => ?_, fun i hi => ?_, fun i k hik hk => ?_⟩⟩
  · rw [List.mem_singleton] at hr; rw [hr]; rfl
  · have : k < 1 := hk; omega
  · show (0 : Nat) < 2; decide
  · exact absurd hb (Nat.not_lt_zero b)
  · have : i < 1 := hi
    obtain rfl : i = 0 := by omega
    decide
  · have : k < 1 := hk; omega

/-- Each row makes nought of each. -/
theorem rows_dot {ms hs us : List (List Int)} {n : Nat} {q : Nat → Nat} (hm : ∀ r ∈ ms, r.length = n) (ha : Alikes n (InL hs) (InL ms)) (G : FormL (hs.length + n) us q) (b : Alikes (hs.length + n) (InL us) (InL (tracedL hs n)))
    {r k : List Int} (hr : r ∈ ms) (hk : k ∈ behindL hs.length us) : sumN n (fun c => r.getD c 0 * k.getD c 0) = 0 := by
  obtain ⟨q', G'⟩ := behind_form G
  have hl := G'.len k hk
  have h1 := (kernel_gens G b hl).1 (.base hk hl)
  exact dot_gens h1 ((ha r).2 (.base hr (hm r hr)))

set_option linter.unusedSimpArgs false in
set_option maxRecDepth 100000 in
set_option maxHeartbeats 6400000 in
theorem topKernel_any (w : World) (vm : Value) (nI : Int) {rss : List (List Raw)} (hC : MatC w vm rss) :
    Calls Try.prog 3 #[vm, .int .i64 nI] w fun e w' => e = .returned (.bool true) ∧ Below w.heap.size w w' := by
  have HC := hide hC
  obtain ⟨mo, mcap, rfl, -, -, -⟩ := hC
  have HO1 := hide (ofV_any _ _ [1, 1] (row_ones w) (by decide))
  have HB0 : Hid (Below w.heap.size w (w.alloc (.cells #[.int .i64 1, .int .i64 1] 3))) := (Below.refl _ _).alloc (Nat.le_refl _) _
  go_enter Try.func3, Try.ntmps3
  go_wp2_with fail
  refine HO1.out.mono ?_
  rintro e w1 ⟨P1, rfl, ho1⟩
  have HV1 := hide ho1.vec
  have HB1 := hide (HB0.out.trans (ho1.below.mono (by simp)))
  rw [show ([1, 1] : List Int).length = 2 from rfl] at HV1
  rw [show ([1, 1] : List Int).length = 2 from rfl]
  clear ho1 HO1 HB0
  have HM1 := hide (one_row w1 _ [1, 1] 8 (HV1.out.mono (by decide)))
  have HB1a : Hid (Below w1.heap.size w1 (w1.alloc (.cells #[.slice (some ⟨P1, 0, none⟩) 2 2] 29))) := (Below.refl _ _).alloc (Nat.le_refl _) _
  go_wp2_with fail
  refine (kernel_ok _ _ [[1, 1]] 2 HM1.out (fun us h => by rw [List.mem_singleton] at h; rw [h]; rfl) (by decide) (by decide) (by decide)).mono ?_
  rintro e w2 ⟨uo, h1, u1, p1, q1, rfl, k1, k2, k3, k4, k5, -, k6⟩
  have hcnt : (behindL h1.length u1).length = 1 := by
    have c1 := kernel_count k2 k4 k5
    have c2 : h1 = [[1, 1]] := formL_one k2 form_ones k3
    rw [c2] at c1 ⊢
    have : ([[1, 1]] : List (List Int)).length = 1 := rfl
    omega
  have HB2 := hide (HB1.out.trans ((HB1a.out.trans (k6.mono (by simp))).mono HB1.out.size))
  obtain ⟨o1, oc1, rfl, -, -⟩ := k1
  rw [hcnt]
  clear k2 k3 k4 k5 k6 HM1 HV1 HB1 HB1a hcnt
  have HLT := hide (fun r (hr : r = true ↔ LightP rss nI) => lightT_any w2 _ rss nI (HC.out.below HB2.out) r hr)
  by_cases hlp : LightP rss nI
  · have HL1 := hide (HLT.out true ⟨fun _ => hlp, fun _ => rfl⟩)
    have HLP := hide hlp
    clear HLT hlp
    go_wp2_with fail
    refine HL1.out.mono ?_
    rintro e w3 ⟨rfl, hb3⟩
    have HB3 := hide (HB2.out.trans (hb3.mono HB2.out.size))
    clear hb3 HL1 HB2
    by_cases h5 : rss.length ≤ 5
    · by_cases hn5 : nI ≤ 5
      · have g1 : decide ((5 : Int) < (rss.length : Int)) = false := decide_eq_false (by omega)
        have g2 : decide ((5 : Int) < nI) = false := decide_eq_false (by omega)
        have g3 : ¬ (5 < nI) := by omega
        obtain ⟨hlm, -, hc0⟩ := HLP.out
        obtain ⟨h14, hlv⟩ := lightM_parts hlm
        have HML := hide (HC.out.light hlv)
        obtain ⟨hn1, hn8, hm12, hrs⟩ := checkedM_nil.1 hc0
        obtain ⟨n, rfl⟩ : ∃ n : Nat, nI = (n : Int) := ⟨nI.toNat, by omega⟩
        have hMN := HML.out.toN (n := 8) (fun rs h => (hrs rs h).2) (fun rs h => lightV_eight (hlv rs h))
        obtain ⟨ms, hms⟩ : ∃ ms, rss.map (·.map Raw.z) = ms := ⟨_, rfl⟩
        have hlen : rss.length = ms.length := by rw [← hms, List.length_map]
        have hml : ∀ us ∈ ms, us.length = n := fun us h => by
          rw [← hms] at h
          obtain ⟨rs, h1, rfl⟩ := List.mem_map.1 h
          rw [List.length_map]
          have := (hrs rs h1).1
          omega
        rw [hms, hlen] at hMN
        rw [hlen] at g1
        rw [hlen]
        replace h5 : ms.length ≤ 5 := by omega
        replace hn1 : 1 ≤ n := by omega
        replace hn5 : n ≤ 5 := by omega
        have HM := hide hMN; have HRL := hide hml
        clear hms hlen hlv hlm h14 hrs HC HML HLP hMN hml hc0 hn8 hm12
        obtain ⟨hb1, hb2, hb3, hb4⟩ := nbT n (by omega)
        have HBA := hide hb1; have HBB := hide hb2; have HKK := hide hb3; have HBD := hide hb4
        clear hb1 hb2 hb3 hb4
        have HK1 := hide (kernel_ok w3 _ ms n (HM.out.below HB3.out (Nat.le_refl _)) HRL.out hn1 (by omega) (by omega))
        go_wp2_with fail
        refine HK1.out.mono ?_
        rintro e w4 ⟨vk, hs, us, p, q, rfl, k1, k2, k3, k4, k5, -, k6⟩
        have HK := hide k1; have HF := hide k2; have HA := hide k3
        have HB4 := hide (HB3.out.trans (k6.mono HB3.out.size))
        have HDOT := hide (fun r k (hr : r ∈ ms) (hk : k ∈ behindL hs.length us) => rows_dot HRL.out k3 k4 k5 hr hk)
        have HCN := hide (kernel_count k2 k4 k5)
        have HDU : Hid (Dual (behindL hs.length us) n) := fun i hi => kernel_dual k4 k5 i hi
        obtain ⟨qk, kF⟩ := behind_form k4
        have HKF := hide kF
        clear k2 k3 k4 k5 k6 HK1 kF HB3
        generalize behindL hs.length us = ks at *
        generalize n * (n * 8 + 2) + 2 = N at *
        obtain ⟨ko, kcap, rfl, -, -⟩ := k1
        have HH1 := hide (hermite_any w4 _ ms n 8 (HM.out.below HB4.out (Nat.le_refl _)) HRL.out hn1 (by omega) (by omega) HBB.out)
        go_wp2_with fail
        refine HH1.out.mono ?_
        rintro e w5 ⟨vh, hs', p', rfl, j1, j2, j3, j4, j5⟩
        obtain rfl : hs' = hs := formL_one j4 HF.out (j5.trans HA.out.symm)
        have HB5 := hide (HB4.out.trans (j3.mono HB4.out.size))
        have HK5 := hide (HK.out.below j3 (Nat.le_refl _))
        obtain ⟨ho, hcap, rfl, -, -⟩ := j1
        have hcn := HCN.out
        have hkl : ks.length ≤ 5 := by omega
        clear j2 j3 j4 j5 HH1 HB4 HK HF HA p'
        go_wp2_with fail
        refine (form_any w5 _ ks n N qk HK5.out HKF.out (by omega) (by omega)).mono ?_
        rintro e w6 ⟨rfl, hb6⟩
        have HB6 := hide (HB5.out.trans (hb6.mono HB5.out.size))
        have HK6 := hide (HK5.out.below hb6 (Nat.le_refl _))
        have g4 : ((ks.length : Int) + (hs'.length : Int)) = (n : Int) := by omega
        clear hb6 HB5 HK5 hcn
        go_wp2
        go_loopw [12] (fun x wr => ∃ i : Nat, i ≤ ms.length ∧ x = .int .i64 i ∧ Hid (Below w6.heap.size w6 wr)) (fun x _ => ms.length - (intOf x).toNat)
        case atStart => exact ⟨0, Nat.zero_le _, rfl, hide (Below.refl _ _)⟩
        case round =>
          obtain ⟨i, hi, rfl, HE⟩ := hrel
          by_cases hil : i < ms.length
          · have HSI : Hid (∀ k ∈ ks, sumN n (fun c => ms[i].getD c 0 * k.getD c 0) = 0) := fun k hk => HDOT.out _ k (List.getElem_mem hil) hk
            go_wp2
            go_loopw [13] (fun x wr => ∃ j : Nat, j ≤ ks.length ∧ x = .int .i64 j ∧ Hid (Below w6.heap.size w6 wr)) (fun x _ => ks.length - (intOf x).toNat)
            case atStart => exact ⟨0, Nat.zero_le _, rfl, HE⟩
            case round =>
              clear HE
              obtain ⟨j, hj, rfl, HE⟩ := hrel
              by_cases hjl : j < ks.length
              · have HBX : Hid (Box (wr.alloc (.cells #[.bool false, .slice none 0 0] 36)) wr.heap.size (.bool false) (.slice none 0 0)) := box_new wr _ _ _ _ rfl
                have HEA := hide (HE.out.alloc HE.out.size (.cells #[.bool false, .slice none 0 0] 36))
                have hBs : w6.heap.size ≤ wr.heap.size := HE.out.size
                have HN0 : Hid (NumL (wr.alloc (.cells #[.bool false, .slice none 0 0] 36)) (.agg #[.bool false, .slice none 0 0]) 0 (N + 8 + 0)) := ⟨false, _, [], rfl, ⟨none, 0, rfl, Nat.le_refl _, by simp, LB_nil, fun h => absurd h (by simp)⟩, .inl rfl, fun _ => rfl, by simp [lv], Nat.zero_le _⟩
                go_wp2
                obtain ⟨wo, rfl⟩ : ∃ wo : World, wo = wr := ⟨_, rfl⟩
                go_loopw [15] (fun x wq => ∃ (c : Nat) (sn : Bool) (so : Option Addr) (sl sc : Nat), c ≤ n ∧ x = .int .i64 c ∧ Hid (Box wq wo.heap.size (.bool sn) (.slice so sl sc)) ∧ Hid (NumL wq (.agg #[.bool sn, .slice so sl sc]) (sumN c (fun c => ms[i].getD c 0 * ks[j].getD c 0)) (N + 8 + c)) ∧ Hid (Below w6.heap.size w6 wq) ∧ Hid (wo.heap.size < wq.heap.size)) (fun x _ => n - (intOf x).toNat)
                case atStart => exact ⟨0, false, none, 0, 0, Nat.zero_le _, rfl, HBX, HN0, HEA, hide (by simp)⟩
                case round =>
                  clear HBX HEA HN0 HE
                  obtain ⟨c, sn, so, sl, sc, hc, rfl, HBX, HNS, HEQ, HBL⟩ := hrel
                  by_cases hcl : c < n
                  · obtain ⟨mb, moff, _, e, lm, mu, cm, hmu⟩ := HM.out.at i hil
                    simp only [Value.slice.injEq, true_and] at e
                    obtain ⟨rfl, rfl⟩ := e
                    obtain ⟨kb, koff, _, e, lk, ku, ck, hku⟩ := HK6.out.at j hjl
                    simp only [Value.slice.injEq, true_and] at e
                    obtain ⟨rfl, rfl⟩ := e
                    have hmn : ms[i].length = n := HRL.out _ (List.getElem_mem hil)
                    have hkn : ks[j].length = n := HKF.out.len _ (List.getElem_mem hjl)
                    have HSN : Hid (sumN (c + 1) (fun c => ms[i].getD c 0 * ks[j].getD c 0) = sumN c (fun c => ms[i].getD c 0 * ks[j].getD c 0) + ms[i].getD c 0 * ks[j].getD c 0) := rfl
                    generalize ht2 : sumN (c + 1) (fun c => ms[i].getD c 0 * ks[j].getD c 0) = t2 at *
                    have HT2 := hide ht2
                    clear ht2
                    generalize sumN c (fun c => ms[i].getD c 0 * ks[j].getD c 0) = t1 at *
                    have hbw := HB6.out.trans (HEQ.out.mono HB6.out.size)
                    obtain ⟨ab, aoff, acap, rfl⟩ := hmu.form (by omega)
                    obtain ⟨la, an, ao, al, ac, a0, a1, na⟩ := hmu.at c (by omega)
                    obtain ⟨bb, boff, bcap, rfl⟩ := hku.form (by omega)
                    obtain ⟨lb, bn, bo, bl, bc, b0, b1, nb⟩ := hku.at c (by omega)
                    have NA := hide (na.below hbw (Nat.le_refl _)); have NB := hide (nb.below HEQ.out (Nat.le_refl _))
                    rw [hmn] at cm
                    rw [hkn] at ck
                    have cm' := (hbw.cell (p := ⟨mb, moff + i, none⟩) lm).trans cm
                    have ca0 := (hbw.cell (p := ⟨ab, aoff + c * 2, none⟩) la).trans a0
                    have ca1 := (hbw.cell (p := ⟨ab, aoff + c * 2 + 1, none⟩) la).trans a1
                    have ck' := (HEQ.out.cell (p := ⟨kb, koff + j, none⟩) lk).trans ck
                    have cb0 := (HEQ.out.cell (p := ⟨bb, boff + c * 2, none⟩) lb).trans b0
                    have cb1 := (HEQ.out.cell (p := ⟨bb, boff + c * 2 + 1, none⟩) lb).trans b1
                    obtain ⟨cs0, cs1, fs0, fs1⟩ := HBX.out
                    have lm2 := Nat.lt_of_lt_of_le lm hbw.size
                    have la2 := Nat.lt_of_lt_of_le la hbw.size
                    have lk2 := Nat.lt_of_lt_of_le lk HEQ.out.size
                    have lb2 := Nat.lt_of_lt_of_le lb HEQ.out.size
                    have ls2 := HBL.out
                    clear hmu hku cm ck a0 a1 b0 b1 na nb hbw hmn hkn
                    generalize ms[i].getD c 0 = x at *
                    generalize ks[j].getD c 0 = y at *
                    go_wp2_with fail
                    refine upto_start (S := (fun w' => w'.cell? ⟨wo.heap.size, 0, none⟩ = some (.bool sn) ∧ w'.cell? ⟨wo.heap.size, 1, none⟩ = some (.slice so sl sc) ∧ w'.cell? ⟨mb, moff + i, none⟩ = some (.slice (some ⟨ab, aoff, none⟩) n acap) ∧ w'.cell? ⟨ab, aoff + c * 2, none⟩ = some (.bool an) ∧ w'.cell? ⟨ab, aoff + c * 2 + 1, none⟩ = some (.slice ao al ac) ∧ w'.cell? ⟨kb, koff + j, none⟩ = some (.slice (some ⟨bb, boff, none⟩) n bcap) ∧ w'.cell? ⟨bb, boff + c * 2, none⟩ = some (.bool bn) ∧ w'.cell? ⟨bb, boff + c * 2 + 1, none⟩ = some (.slice bo bl bc))) (k := 17) (by kernel_rfl) (by exact ⟨cs0, cs1, cm', ca0, ca1, ck', cb0, cb1⟩) (fun hHeld => ?_)
                    refine upto_run (v := ?_) 0 97 [17] rfl rfl (by kernel_rfl) (by kernel_rfl) (by kernel_rfl) (by kernel_rfl) (by kernel_rfl) (fun _ _ _ h => h) (by rfl) ?_ (by assumption) ?_
                    rotate_left
                    · (intro w hSw; (try dsimp only at hSw); obtain ⟨hS1, hS2, hS3, hS4, hS5, hS6, hS7, hS8⟩ := hSw; go_simp; with_reducible rfl)
                    simp only [Act.put, List.setIfInBounds_toArray, List.set_cons_zero, List.set_cons_succ]
                    refine upto_run (v := ?_) 1 98 [17] rfl rfl (by kernel_rfl) (by kernel_rfl) (by kernel_rfl) (by kernel_rfl) (by kernel_rfl) (fun _ _ _ h => h) (by rfl) ?_ (by assumption) ?_
                    rotate_left
                    · (intro w hSw; (try dsimp only at hSw); obtain ⟨hS1, hS2, hS3, hS4, hS5, hS6, hS7, hS8⟩ := hSw; go_simp; with_reducible rfl)
                    simp only [Act.put, List.setIfInBounds_toArray, List.set_cons_zero, List.set_cons_succ]
                    refine upto_run (v := ?_) 2 99 [17] rfl rfl (by kernel_rfl) (by kernel_rfl) (by kernel_rfl) (by kernel_rfl) (by kernel_rfl) (fun _ _ _ h => h) (by rfl) ?_ (by assumption) ?_
                    rotate_left
                    · (intro w hSw; (try dsimp only at hSw); obtain ⟨hS1, hS2, hS3, hS4, hS5, hS6, hS7, hS8⟩ := hSw; go_simp; with_reducible rfl)
                    simp only [Act.put, List.setIfInBounds_toArray, List.set_cons_zero, List.set_cons_succ]
                    refine upto_run (v := ?_) 3 100 [17] rfl rfl (by kernel_rfl) (by kernel_rfl) (by kernel_rfl) (by kernel_rfl) (by kernel_rfl) (fun _ _ _ h => h) (by rfl) ?_ (by assumption) ?_
                    rotate_left
                    · (intro w hSw; (try dsimp only at hSw); obtain ⟨hS1, hS2, hS3, hS4, hS5, hS6, hS7, hS8⟩ := hSw; go_simp; with_reducible rfl)
                    simp only [Act.put, List.setIfInBounds_toArray, List.set_cons_zero, List.set_cons_succ]
                    refine upto_run (v := ?_) 4 101 [17] rfl rfl (by kernel_rfl) (by kernel_rfl) (by kernel_rfl) (by kernel_rfl) (by kernel_rfl) (fun _ _ _ h => h) (by rfl) ?_ (by assumption) ?_
                    rotate_left
                    · (intro w hSw; (try dsimp only at hSw); obtain ⟨hS1, hS2, hS3, hS4, hS5, hS6, hS7, hS8⟩ := hSw; go_simp; with_reducible rfl)
                    simp only [Act.put, List.setIfInBounds_toArray, List.set_cons_zero, List.set_cons_succ]
                    refine upto_run (v := ?_) 5 102 [17] rfl rfl (by kernel_rfl) (by kernel_rfl) (by kernel_rfl) (by kernel_rfl) (by kernel_rfl) (fun _ _ _ h => h) (by rfl) ?_ (by assumption) ?_
                    rotate_left
                    · (intro w hSw; (try dsimp only at hSw); obtain ⟨hS1, hS2, hS3, hS4, hS5, hS6, hS7, hS8⟩ := hSw; go_simp; with_reducible rfl)
                    simp only [Act.put, List.setIfInBounds_toArray, List.set_cons_zero, List.set_cons_succ]
                    refine upto_run (v := ?_) 6 103 [17] rfl rfl (by kernel_rfl) (by kernel_rfl) (by kernel_rfl) (by kernel_rfl) (by kernel_rfl) (fun _ _ _ h => h) (by rfl) ?_ (by assumption) ?_
                    rotate_left
                    · (intro w hSw; (try dsimp only at hSw); obtain ⟨hS1, hS2, hS3, hS4, hS5, hS6, hS7, hS8⟩ := hSw; go_simp; with_reducible rfl)
                    simp only [Act.put, List.setIfInBounds_toArray, List.set_cons_zero, List.set_cons_succ]
                    refine upto_run (v := ?_) 7 104 [17] rfl rfl (by kernel_rfl) (by kernel_rfl) (by kernel_rfl) (by kernel_rfl) (by kernel_rfl) (fun _ _ _ h => h) (by rfl) ?_ (by assumption) ?_
                    rotate_left
                    · (intro w hSw; (try dsimp only at hSw); obtain ⟨hS1, hS2, hS3, hS4, hS5, hS6, hS7, hS8⟩ := hSw; go_simp; with_reducible rfl)
                    simp only [Act.put, List.setIfInBounds_toArray, List.set_cons_zero, List.set_cons_succ]
                    refine upto_run (v := ?_) 8 105 [17] rfl rfl (by kernel_rfl) (by kernel_rfl) (by kernel_rfl) (by kernel_rfl) (by kernel_rfl) (fun _ _ _ h => h) (by rfl) ?_ (by assumption) ?_
                    rotate_left
                    · (intro w hSw; (try dsimp only at hSw); obtain ⟨hS1, hS2, hS3, hS4, hS5, hS6, hS7, hS8⟩ := hSw; go_simp; with_reducible rfl)
                    simp only [Act.put, List.setIfInBounds_toArray, List.set_cons_zero, List.set_cons_succ]
                    refine upto_run (v := ?_) 9 106 [17] rfl rfl (by kernel_rfl) (by kernel_rfl) (by kernel_rfl) (by kernel_rfl) (by kernel_rfl) (fun _ _ _ h => h) (by rfl) ?_ (by assumption) ?_
                    rotate_left
                    · (intro w hSw; (try dsimp only at hSw); obtain ⟨hS1, hS2, hS3, hS4, hS5, hS6, hS7, hS8⟩ := hSw; go_simp; with_reducible rfl)
                    simp only [Act.put, List.setIfInBounds_toArray, List.set_cons_zero, List.set_cons_succ]
                    refine upto_run (v := ?_) 10 107 [17] rfl rfl (by kernel_rfl) (by kernel_rfl) (by kernel_rfl) (by kernel_rfl) (by kernel_rfl) (fun _ _ _ h => h) (by rfl) ?_ (by assumption) ?_
                    rotate_left
                    · (intro w hSw; (try dsimp only at hSw); obtain ⟨hS1, hS2, hS3, hS4, hS5, hS6, hS7, hS8⟩ := hSw; go_simp; with_reducible rfl)
                    simp only [Act.put, List.setIfInBounds_toArray, List.set_cons_zero, List.set_cons_succ]
                    refine upto_run (v := ?_) 11 108 [17] rfl rfl (by kernel_rfl) (by kernel_rfl) (by kernel_rfl) (by kernel_rfl) (by kernel_rfl) (fun _ _ _ h => h) (by rfl) ?_ (by assumption) ?_
                    rotate_left
                    · (intro w hSw; (try dsimp only at hSw); obtain ⟨hS1, hS2, hS3, hS4, hS5, hS6, hS7, hS8⟩ := hSw; go_simp; with_reducible rfl)
                    simp only [Act.put, List.setIfInBounds_toArray, List.set_cons_zero, List.set_cons_succ]
                    refine upto_run (v := ?_) 12 109 [17] rfl rfl (by kernel_rfl) (by kernel_rfl) (by kernel_rfl) (by kernel_rfl) (by kernel_rfl) (fun _ _ _ h => h) (by rfl) ?_ (by assumption) ?_
                    rotate_left
                    · (intro w hSw; (try dsimp only at hSw); obtain ⟨hS1, hS2, hS3, hS4, hS5, hS6, hS7, hS8⟩ := hSw; go_simp; with_reducible rfl)
                    simp only [Act.put, List.setIfInBounds_toArray, List.set_cons_zero, List.set_cons_succ]
                    refine upto_run (v := ?_) 13 110 [17] rfl rfl (by kernel_rfl) (by kernel_rfl) (by kernel_rfl) (by kernel_rfl) (by kernel_rfl) (fun _ _ _ h => h) (by rfl) ?_ (by assumption) ?_
                    rotate_left
                    · (intro w hSw; (try dsimp only at hSw); obtain ⟨hS1, hS2, hS3, hS4, hS5, hS6, hS7, hS8⟩ := hSw; go_simp; with_reducible rfl)
                    simp only [Act.put, List.setIfInBounds_toArray, List.set_cons_zero, List.set_cons_succ]
                    refine upto_run (v := ?_) 14 111 [17] rfl rfl (by kernel_rfl) (by kernel_rfl) (by kernel_rfl) (by kernel_rfl) (by kernel_rfl) (fun _ _ _ h => h) (by rfl) ?_ (by assumption) ?_
                    rotate_left
                    · (intro w hSw; (try dsimp only at hSw); obtain ⟨hS1, hS2, hS3, hS4, hS5, hS6, hS7, hS8⟩ := hSw; go_simp; with_reducible rfl)
                    simp only [Act.put, List.setIfInBounds_toArray, List.set_cons_zero, List.set_cons_succ]
                    refine upto_one 15 (by kernel_rfl) rfl (fun K hK => ?_)
                    go_simp
                    refine (mul_any wr.drew _ _ x y 8 N (by exact NA.out.below (Below.refl wr.heap.size wr).drew (Nat.le_refl _)) (by exact NB.out.below (Below.refl wr.heap.size wr).drew (Nat.le_refl _)) (by decide) (by have := HKK.out; omega)).mono ?_
                    rintro e x1 ⟨vp, rfl, np, hb1⟩
                    have hb1' : Below wr.heap.size wr x1 := (Below.refl _ _).drew.trans hb1
                    obtain ⟨⟨pn, po, pl, pc⟩, rfl⟩ := np.nm
                    have NP := hide np
                    have s1 : (fun w' => w'.cell? ⟨wo.heap.size, 0, none⟩ = some (.bool sn) ∧ w'.cell? ⟨wo.heap.size, 1, none⟩ = some (.slice so sl sc) ∧ w'.cell? ⟨mb, moff + i, none⟩ = some (.slice (some ⟨ab, aoff, none⟩) n acap) ∧ w'.cell? ⟨ab, aoff + c * 2, none⟩ = some (.bool an) ∧ w'.cell? ⟨ab, aoff + c * 2 + 1, none⟩ = some (.slice ao al ac) ∧ w'.cell? ⟨kb, koff + j, none⟩ = some (.slice (some ⟨bb, boff, none⟩) n bcap) ∧ w'.cell? ⟨bb, boff + c * 2, none⟩ = some (.bool bn) ∧ w'.cell? ⟨bb, boff + c * 2 + 1, none⟩ = some (.slice bo bl bc)) x1 := ⟨(hb1'.cell (p := ⟨wo.heap.size, 0, none⟩) ls2).trans cs0, (hb1'.cell (p := ⟨wo.heap.size, 1, none⟩) ls2).trans cs1, (hb1'.cell (p := ⟨mb, moff + i, none⟩) lm2).trans cm', (hb1'.cell (p := ⟨ab, aoff + c * 2, none⟩) la2).trans ca0, (hb1'.cell (p := ⟨ab, aoff + c * 2 + 1, none⟩) la2).trans ca1, (hb1'.cell (p := ⟨kb, koff + j, none⟩) lk2).trans ck', (hb1'.cell (p := ⟨bb, boff + c * 2, none⟩) lb2).trans cb0, (hb1'.cell (p := ⟨bb, boff + c * 2 + 1, none⟩) lb2).trans cb1⟩
                    have HX1 := hide hb1'; have HS1 := hide s1
                    clear np hb1 hb1' s1
                    go_wp2_with fail
                    refine hK.out _ _ (fun _ => HS1.out) ?_
                    clear hK K hHeld
                    try simp only [Act.put, List.setIfInBounds_toArray, List.set_cons_zero, List.set_cons_succ]
                    refine upto_one 16 (by kernel_rfl) rfl (fun K hK => ?_)
                    go_simp
                    refine (add_any x1 _ _ t1 (x * y) (N + 8 + c) (by exact HNS.out.below HX1.out (Nat.le_refl _)) (by exact NP.out.mono (by omega)) (by have := HKK.out; omega)).mono ?_
                    rintro e x2 ⟨vt, rfl, nt, hb2⟩
                    obtain ⟨⟨tn, to, tl, tc⟩, rfl⟩ := nt.nm
                    have hb12 : Below wr.heap.size wr x2 := HX1.out.trans (hb2.mono HX1.out.size)
                    have s2 : (fun w' => w'.cell? ⟨wo.heap.size, 0, none⟩ = some (.bool sn) ∧ w'.cell? ⟨wo.heap.size, 1, none⟩ = some (.slice so sl sc) ∧ w'.cell? ⟨mb, moff + i, none⟩ = some (.slice (some ⟨ab, aoff, none⟩) n acap) ∧ w'.cell? ⟨ab, aoff + c * 2, none⟩ = some (.bool an) ∧ w'.cell? ⟨ab, aoff + c * 2 + 1, none⟩ = some (.slice ao al ac) ∧ w'.cell? ⟨kb, koff + j, none⟩ = some (.slice (some ⟨bb, boff, none⟩) n bcap) ∧ w'.cell? ⟨bb, boff + c * 2, none⟩ = some (.bool bn) ∧ w'.cell? ⟨bb, boff + c * 2 + 1, none⟩ = some (.slice bo bl bc)) x2 := ⟨(hb12.cell (p := ⟨wo.heap.size, 0, none⟩) ls2).trans cs0, (hb12.cell (p := ⟨wo.heap.size, 1, none⟩) ls2).trans cs1, (hb12.cell (p := ⟨mb, moff + i, none⟩) lm2).trans cm', (hb12.cell (p := ⟨ab, aoff + c * 2, none⟩) la2).trans ca0, (hb12.cell (p := ⟨ab, aoff + c * 2 + 1, none⟩) la2).trans ca1, (hb12.cell (p := ⟨kb, koff + j, none⟩) lk2).trans ck', (hb12.cell (p := ⟨bb, boff + c * 2, none⟩) lb2).trans cb0, (hb12.cell (p := ⟨bb, boff + c * 2 + 1, none⟩) lb2).trans cb1⟩
                    have HS2 := hide s2
                    have HBX2 := hide (HBX.out.later hb12 ls2)
                    have HBX3 := hide (HBX2.out.write (.bool tn) (.slice to tl tc))
                    have HN3 : Hid (NumL ((x2.setCell ⟨wo.heap.size, 0, none⟩ (.bool tn)).setCell ⟨wo.heap.size, 1, none⟩ (.slice to tl tc)) (.agg #[.bool tn, .slice to tl tc]) t2 (N + 8 + (c + 1))) := by
                      rw [HSN.out]
                      exact (nt.setCell HBX2.out.1 (fun z e => by cases e)).setCell (p := ⟨wo.heap.size, 1, none⟩) ((World.cell?_setCell_other (h := fun e => by simp at e) ..).trans HBX2.out.2.1) (fun z e => by cases e)
                    have HE3 := hide (((HEQ.out.trans (hb12.mono HEQ.out.size)).setCell (p := ⟨wo.heap.size, 0, none⟩) hBs (.bool tn)).setCell (p := ⟨wo.heap.size, 1, none⟩) hBs (.slice to tl tc))
                    have HL3 : Hid (wo.heap.size < ((x2.setCell ⟨wo.heap.size, 0, none⟩ (.bool tn)).setCell ⟨wo.heap.size, 1, none⟩ (.slice to tl tc)).heap.size) := by
                      have := hb12.size
                      show _ < _
                      simp; omega
                    obtain ⟨e0, e1, f0, f1⟩ := HBX2.out
                    clear nt hb2 hb12 s2 cs0 cs1 cm' ca0 ca1 ck' cb0 cb1 fs0 fs1
                    go_wp2_with fail
                    refine hK.out _ _ (fun _ => HS2.out) ?_
                    clear hK K
                    try simp only [Act.put, List.setIfInBounds_toArray, List.set_cons_zero, List.set_cons_succ]
                    refine upto_one 17 (by kernel_rfl) rfl (fun K hK => ?_)
                    go_simp
                    refine hK.out _ _ (fun h => absurd h (by decide)) ?_
                    clear hK K
                    try simp only [Act.put, List.setIfInBounds_toArray, List.set_cons_zero, List.set_cons_succ]
                    refine upto_done (by kernel_rfl) ?_
                    clear e0 e1 f0 f1 HBX HBX2 HNS HEQ HS1 HS2 HX1 NP NA NB
                    go_wp2
                    go_roundw
                    case rel => exact ⟨c + 1, tn, to, tl, tc, by omega, by go_num, HBX3, hide (by rw [HT2.out]; exact HN3.out), HE3, HL3⟩
                    case measure => simp [intOf]; omega
                  · obtain rfl : c = n := by omega
                    have hz := HSI.out _ (List.getElem_mem hjl)
                    rw [hz] at HNS
                    obtain ⟨cs0, cs1, -, -⟩ := HBX.out
                    clear hz
                    go_wp2_with fail
                    refine (zero_any wr _ 0 _ HNS.out).mono ?_
                    rintro e x1 ⟨rfl, hb1⟩
                    have HE1 := hide (HEQ.out.trans (hb1.mono HEQ.out.size))
                    clear hb1 HNS HBX HEQ cs0 cs1
                    go_wp2
                    go_roundw
                    case rel => exact ⟨j + 1, by omega, by go_num, HE1⟩
                    case measure => simp [intOf]; omega
              · obtain rfl : j = ks.length := by omega
                go_wp2
                go_roundw
                case rel => exact ⟨i + 1, by omega, by go_num, HE⟩
                case measure => simp [intOf]; omega
          · obtain rfl : i = ms.length := by omega
            have HKE := hide (HK6.out.below HE.out (Nat.le_refl _))
            have HBE := hide (HB6.out.trans (HE.out.mono HB6.out.size))
            go_wp2_with fail
            refine (smith_ones wr _ ks n N HKE.out HKF.out HDU.out hn1 (by omega) (by omega) HBA.out (HBD.out ks.length (by omega))).mono ?_
            rintro e x1 ⟨P, rfl, hv1⟩
            have HV1 := hide hv1
            clear hv1 HKE HE
            go_wp2
            obtain ⟨wz, rfl⟩ : ∃ wz : World, wz = wr := ⟨_, rfl⟩
            go_loopw [17] (fun x wq => ∃ i : Nat, i ≤ ks.length ∧ x = .int .i64 i ∧ Hid (VecO wz wq P (List.replicate ks.length 1) 2)) (fun x _ => ks.length - (intOf x).toNat)
            case atStart => exact ⟨0, Nat.zero_le _, rfl, HV1⟩
            case round =>
              clear HV1
              obtain ⟨i, hi, rfl, HV⟩ := hrel
              by_cases hil2 : i < ks.length
              · obtain ⟨dn, d0, dl, dc, c0, c1, nd⟩ := HV.out.at i (by simp; omega)
                rw [ones_get ks.length i hil2] at nd
                have ND := hide nd
                have hP := HV.out.lt
                clear nd
                go_wp2_with fail
                refine upto_start (S := (fun w' => w'.cell? ⟨P, i * 2, none⟩ = some (.bool dn) ∧ w'.cell? ⟨P, i * 2 + 1, none⟩ = some (.slice d0 dl dc))) (k := 7) (by kernel_rfl) (by exact ⟨c0, c1⟩) (fun hHeld => ?_)
                refine upto_run (v := ?_) 0 129 [] rfl rfl (by kernel_rfl) (by kernel_rfl) (by kernel_rfl) (by kernel_rfl) (by kernel_rfl) (fun _ _ _ h => h) (by rfl) ?_ (by assumption) ?_
                rotate_left
                · (intro w hSw; (try dsimp only at hSw); obtain ⟨hS1, hS2⟩ := hSw; go_simp; with_reducible rfl)
                simp only [Act.put, List.setIfInBounds_toArray, List.set_cons_zero, List.set_cons_succ]
                refine upto_run (v := ?_) 1 130 [] rfl rfl (by kernel_rfl) (by kernel_rfl) (by kernel_rfl) (by kernel_rfl) (by kernel_rfl) (fun _ _ _ h => h) (by rfl) ?_ (by assumption) ?_
                rotate_left
                · (intro w hSw; (try dsimp only at hSw); obtain ⟨hS1, hS2⟩ := hSw; go_simp; with_reducible rfl)
                simp only [Act.put, List.setIfInBounds_toArray, List.set_cons_zero, List.set_cons_succ]
                refine upto_run (v := ?_) 2 131 [] rfl rfl (by kernel_rfl) (by kernel_rfl) (by kernel_rfl) (by kernel_rfl) (by kernel_rfl) (fun _ _ _ h => h) (by rfl) ?_ (by assumption) ?_
                rotate_left
                · (intro w hSw; (try dsimp only at hSw); obtain ⟨hS1, hS2⟩ := hSw; go_simp; with_reducible rfl)
                simp only [Act.put, List.setIfInBounds_toArray, List.set_cons_zero, List.set_cons_succ]
                refine upto_run (v := ?_) 3 132 [] rfl rfl (by kernel_rfl) (by kernel_rfl) (by kernel_rfl) (by kernel_rfl) (by kernel_rfl) (fun _ _ _ h => h) (by rfl) ?_ (by assumption) ?_
                rotate_left
                · (intro w hSw; (try dsimp only at hSw); obtain ⟨hS1, hS2⟩ := hSw; go_simp; with_reducible rfl)
                simp only [Act.put, List.setIfInBounds_toArray, List.set_cons_zero, List.set_cons_succ]
                refine upto_one 4 (by kernel_rfl) rfl (fun K hK => ?_)
                go_simp
                refine (of_any wr.drew 1 (by decide) (by decide)).mono ?_
                rintro e x2 ⟨vo, rfl, no, hb2⟩
                have hb2' : Below wr.heap.size wr x2 := (Below.refl _ _).drew.trans hb2
                have NO := hide no
                have e0 := (hb2'.cell (p := ⟨P, i * 2, none⟩) hP).trans c0
                have e1 := (hb2'.cell (p := ⟨P, i * 2 + 1, none⟩) hP).trans c1
                have HX2 := hide hb2'
                obtain ⟨⟨on, oo, ol, oc⟩, rfl⟩ := no.nm
                clear no hb2 hb2'
                go_wp2_with fail
                refine hK.out _ _ (fun _ => ⟨e0, e1⟩) ?_
                clear hK K hHeld
                try simp only [Act.put, List.setIfInBounds_toArray, List.set_cons_zero, List.set_cons_succ]
                refine upto_one 5 (by kernel_rfl) rfl (fun K hK => ?_)
                go_simp
                refine (is_any x2 _ _ 1 1 2 2 (by exact ND.out.below HX2.out (Nat.le_refl _)) (by exact NO.out)).mono ?_
                rintro e x3 ⟨he, hb3⟩
                have he' : e = .returned (.bool true) := by rw [he, show (cmpI 1 1 == 0) = true by decide]
                subst he'
                have hb23 : Below wr.heap.size wr x3 := HX2.out.trans (hb3.mono HX2.out.size)
                have f0 := (hb23.cell (p := ⟨P, i * 2, none⟩) hP).trans c0
                have f1 := (hb23.cell (p := ⟨P, i * 2 + 1, none⟩) hP).trans c1
                have HV3 := hide (HV.out.later hb23)
                clear he hb3 hb23 c0 c1 e0 e1
                go_wp2_with fail
                refine hK.out _ _ (fun _ => ⟨f0, f1⟩) ?_
                clear hK K
                try simp only [Act.put, List.setIfInBounds_toArray, List.set_cons_zero, List.set_cons_succ]
                have hHeld3 : (fun w' => w'.cell? ⟨P, i * 2, none⟩ = some (.bool dn) ∧ w'.cell? ⟨P, i * 2 + 1, none⟩ = some (.slice d0 dl dc)) x3 := ⟨f0, f1⟩
                refine upto_run (v := ?_) 6 135 [] rfl rfl (by kernel_rfl) (by kernel_rfl) (by kernel_rfl) (by kernel_rfl) (by kernel_rfl) (fun _ _ _ h => h) (by rfl) ?_ (by assumption) ?_
                rotate_left
                · (intro w hSw; (try dsimp only at hSw); obtain ⟨hS1, hS2⟩ := hSw; go_simp; with_reducible rfl)
                simp only [Act.put, List.setIfInBounds_toArray, List.set_cons_zero, List.set_cons_succ]
                refine upto_done (by kernel_rfl) ?_
                clear f0 f1 hHeld3 HX2 ND NO HV
                go_wp2
                go_roundw
                case rel => exact ⟨i + 1, by omega, by go_num, HV3⟩
                case measure => simp [intOf]; omega
              · obtain rfl : i = ks.length := by omega
                have HBF := hide (HBE.out.trans (HV.out.below.mono HBE.out.size))
                go_wp2
                go_ret
                exact ⟨rfl, HBF.out⟩
      · have g2 : decide ((5 : Int) < nI) = true := decide_eq_true (by omega)
        have g1 : decide ((5 : Int) < (rss.length : Int)) = false := decide_eq_false (by omega)
        go_wp2
        go_ret
        exact ⟨rfl, HB3.out⟩
    · have g1 : decide ((5 : Int) < (rss.length : Int)) = true := decide_eq_true (by omega)
      go_wp2
      go_ret
      exact ⟨rfl, HB3.out⟩
  · have HL1 := hide (HLT.out false ⟨fun h => (by cases h), fun h => absurd h hlp⟩)
    clear HLT hlp
    go_wp2_with fail
    refine HL1.out.mono ?_
    rintro e w3 ⟨rfl, hb3⟩
    have HB3 := hide (HB2.out.trans (hb3.mono HB2.out.size))
    clear hb3 HL1
    go_wp2
    go_ret
    exact ⟨rfl, HB3.out⟩

end Go.Proofs.Ytofegldopgkikaa
