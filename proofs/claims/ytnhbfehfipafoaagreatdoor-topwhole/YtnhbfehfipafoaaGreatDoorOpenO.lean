/- TopWhole. -/
import Derived.Test.YtnhbfehfipafoaaGreatDoorStB
import Derived.Test.YtnhbfehfipafoaaGreatDoorWaV
import Derived.Test.YtnhbfehfipafoaaGreatDoorBpZ
import Derived.Test.YtnhbfehfipafoaaGreatDoorJoins
import Derived.ProofKit
import Derived.Lib.SmallJoins
import Derived.ChangeOld
import Derived.Test.YtnhbfehfipafoaaGreatDoorWaJ
import Derived.Test.YtnhbfehfipafoaaGreatDoorBgC
import Derived.Deep.SlicePairs

namespace Go.Proofs.YtnhbfehfipafoaaGreatDoor
open Go.RowKit

structure WhoQ (S B S2 : Nat) (x y : Sto) : Prop where
 s1 : x.S = S
 b1 : x.B = B
 m1 : x.m = 120
 s2 : y.S = S2
 m2 : y.m = 200
 f1 : Free x.D
 f2 : Free y.D

set_option linter.unusedSimpArgs false in
set_option maxRecDepth 100000 in
set_option maxHeartbeats 6400000 in
theorem topWhole_any (w : World) (v1 v2 : Value) (o1 o2 : List OpC) (h1 : OpsN w v1 o1) (h2 : OpsN w v2 o2) (ht : TabP w) (hx : MaxL w) :
  Calls Tryz.prog 8 #[v1, v2] w fun e w' => e = .returned (.bool true) ∧ Below w.heap.size w w' := by
 obtain ⟨a1, k1, rfl, -⟩ := id h1
 obtain ⟨a2, k2, rfl, -⟩ := id h2
 obtain ⟨N, hN⟩ : ∃ N, o1.length = N := ⟨_, rfl⟩
 obtain ⟨M, hM⟩ : ∃ M, o2.length = M := ⟨_, rfl⟩
 rw [hN] at h1 ⊢
 rw [hM] at h2 ⊢
 have HO1 := hide h1; have HO2 := hide h2; have HT := hide ht; have HX := hide hx; have HN := hide hN; have HM := hide hM
 clear h1 h2 ht hx hN hM
 go_enter Tryz.func8, Tryz.ntmps8
 go_wp2_with fail
 refine (kept_any w HT.out HX.out).mono ?_
 rintro e w1 ⟨rfl, hb1⟩
 have HB1 := hide hb1
 clear hb1
 go_wp2_with fail
 refine (stored_any w1 120 (by decide) (by decide) (HT.out.below HB1.out) (HX.out.below HB1.out)).mono ?_
 rintro e w2 ⟨S0, D1, h1, rfl, -, hp1, hf1, hb2⟩
 obtain ⟨B1, hB1⟩ : ∃ B, w1.heap.size = B := ⟨_, rfl⟩
 have HK1 : Hid (w.heap.size ≤ B1) := by show _ ≤ _; rw [← hB1]; exact HB1.out.size
 rw [hB1] at hp1 ⊢
 have HP1 := hide hp1; have HF1 := hide hf1; have HB2 := hide (HB1.out.trans (hb2.mono HB1.out.size))
 clear hp1 hf1 hb2 hB1 HB1
 go_wp2_with fail
 refine (stored_any w2 200 (by decide) (by decide) (HT.out.below HB2.out) (HX.out.below HB2.out)).mono ?_
 rintro e w3 ⟨S2, D2, h2, rfl, -, hp2, hf2, hb3⟩
 obtain ⟨B2, hB2⟩ : ∃ B, w2.heap.size = B := ⟨_, rfl⟩
 have HT3 : Hid (Two w.heap.size w3 ⟨S0, B1, D1, 120, h1, [], 0⟩ ⟨S2, B2, D2, 200, h2, [], 0⟩) :=
  Two.new (x := ⟨S0, B1, D1, 120, h1, [], 0⟩) (y := ⟨S2, B2, D2, 200, h2, [], 0⟩) (h1 := B1) (h2 := w2.heap.size) HP1.out (by rw [hB2] at hp2 ⊢; exact hp2) HK1.out (Nat.le_refl _) hb3
 rw [hB2]
 have HB3 := hide (HB2.out.trans (hb3.mono HB2.out.size)); have HF2 := hide hf2
 clear hp2 hf2 hb3 hB2 HB2 HP1 HK1
 go_wp2_with fail
 refine (lightOps_any w3 _ o1 30 (HO1.out.below HB3.out) (by decide)).mono ?_
 rintro e w4 ⟨rfl, hw4⟩
 subst hw4
 by_cases hl1 : lightL o1 30 = true
 rotate_left
 ·have hl1' : lightL o1 30 = false := by simpa using hl1
  rw [hl1']
  clear hl1 hl1'
  go_wp2
  go_ret
  exact ⟨rfl, HB3.out⟩
 rw [hl1]
 have HL1 : Hid (∀ q ∈ o1, q.o.v.length ≤ 20) := fun q hq => by have := ((lightL_ok hl1).2 q hq).2; omega
 have HN2 : Hid (N ≤ 30) := by show _ ≤ _; rw [← HN.out]; exact (lightL_ok hl1).1
 clear hl1
 go_wp2_with fail
 refine (lightOps_any _ _ o2 20 (HO2.out.below HB3.out) (by decide)).mono ?_
 rintro e w5 ⟨rfl, hw5⟩
 subst hw5
 by_cases hl2 : lightL o2 20 = true
 rotate_left
 ·have hl2' : lightL o2 20 = false := by simpa using hl2
  rw [hl2']
  clear hl2 hl2'
  go_wp2
  go_ret
  exact ⟨rfl, HB3.out⟩
 rw [hl2]
 have HL2 : Hid (∀ q ∈ o2, q.o.v.length ≤ 20) := fun q hq => by have := ((lightL_ok hl2).2 q hq).2; omega
 have HM2 : Hid (M ≤ 20) := by show _ ≤ _; rw [← HM.out]; exact (lightL_ok hl2).1
 clear hl2
 go_wp2_with fail
 refine (xopen2_any HT3.out (by show 120 ≤ 200; decide) (by show 86 ≤ 120; decide) (HT.out.below HB3.out) (HX.out.below HB3.out)).mono ?_
 rintro e w6 ⟨X, S, rfl, hX, hs6, ht6, hb6⟩
 have HXL : Hid (w.heap.size ≤ X) := Nat.le_trans HB3.out.size hX
 have HS6 := hide hs6; have HT6 := hide ht6; have HB6 := hide (HB3.out.trans (hb6.mono HB3.out.size))
 have HQ6 : Hid (WhoQ S B1 S2 ⟨S, B1, D1, 120, h1, [], 0⟩ ⟨S2, B2, D2, 200, h2, [], 0⟩) := ⟨rfl, rfl, rfl, rfl, rfl, HF1.out, HF2.out⟩
 have hN2 := HN2.out; have hM2 := HM2.out
 clear hX hs6 ht6 hb6 HT3 HB3 HF1 HF2
 go_wp2_with fail
 go_loopw [13] (fun ix wr => ∃ (k : Nat) (x y : Sto), k ≤ N ∧ ix = .int .i64 k ∧ Hid (Two w.heap.size wr x y) ∧ Hid (WhoQ S B1 S2 x y) ∧ Hid (x.l = y.l) ∧ Hid (SesB wr X S (.pointer none)) ∧ Hid (Below w.heap.size w wr)) (fun ix _ => N - (intOf ix).toNat)
 case atStart => exact ⟨0, _, _, Nat.zero_le _, rfl, HT6, HQ6, rfl, HS6, HB6⟩
 case round =>
  clear HT6 HQ6 HS6 HB6
  obtain ⟨k, x, y, hk, rfl, HTW, HQ, HLL, HS, HBW⟩ := hrel
  by_cases hkl : k < N
  ·skip
   have hkd : k < o1.length := by rw [HN.out]; exact hkl
   obtain ⟨b, off, cap', e, hlt, c0, c1, c2, c3, hrow, -⟩ := HO1.out.at (List.getElem?_eq_getElem hkd)
   simp only [Value.slice.injEq] at e
   obtain ⟨rfl, -, rfl⟩ := e
   have HV := hide (HL1.out o1[k] (List.getElem_mem hkd))
   generalize o1[k] = q at *
   obtain ⟨⟨kd, nm, nn, vs⟩, vo, vc⟩ := q
   simp only [OpC.row] at c3 hrow
   dsimp only at c0 c1 c2 c3 hrow HV
   have z0 := (HBW.out.cell (p := ⟨b, off + k * 4, none⟩) hlt).trans c0
   have z1 := (HBW.out.cell (p := ⟨b, off + k * 4 + 1, none⟩) hlt).trans c1
   have z2 := (HBW.out.cell (p := ⟨b, off + k * 4 + 2, none⟩) hlt).trans c2
   have z3 := (HBW.out.cell (p := ⟨b, off + k * 4 + 3, none⟩) hlt).trans c3
   have HROW := hide hrow
   have HCC : Hid (∀ wr, Below w.heap.size w wr → wr.cell? ⟨b, off + k * 4, none⟩ = some (.int .i64 kd) ∧ wr.cell? ⟨b, off + k * 4 + 1, none⟩ = some (.string nm) ∧ wr.cell? ⟨b, off + k * 4 + 2, none⟩ = some (.int .i64 nn) ∧ wr.cell? ⟨b, off + k * 4 + 3, none⟩ = some (.slice vo vs.length vc)) := fun wr hbw =>
    ⟨(hbw.cell (p := ⟨b, off + k * 4, none⟩) hlt).trans c0, (hbw.cell (p := ⟨b, off + k * 4 + 1, none⟩) hlt).trans c1, (hbw.cell (p := ⟨b, off + k * 4 + 2, none⟩) hlt).trans c2, (hbw.cell (p := ⟨b, off + k * 4 + 3, none⟩) hlt).trans c3⟩
   clear c0 c1 c2 c3 hrow hkd
   go_wp2_with fail
   have hdo := xdo2_any HTW.out (X := X) (by rw [HQ.out.s1]; exact HS.out) ⟨kd, nm, nn, vs⟩ vo vc HQ.out.f1 (by rw [HQ.out.m1]; decide) (by rw [HQ.out.m1]; decide) (HT.out.below HBW.out) (fun W hb => HROW.out.below (HBW.out.trans hb) (Nat.le_refl _)) HV.out
   refine hdo.mono ?_
   clear hdo
   rintro e w7 ⟨x7, rfl, hs7, hb7, hm7, hl7, hf7, ht7, hbl7, base7, hk7⟩
   have HQ7 : Hid (WhoQ S B1 S2 x7 y) := ⟨hs7.trans HQ.out.s1, hb7.trans HQ.out.b1, hm7.trans HQ.out.m1, HQ.out.s2, HQ.out.m2, hf7, HQ.out.f2⟩
   have HT7 := hide ht7; have HB7 := hide (HBW.out.trans hbl7); have HS7 := hide (HS.out.keptS hk7)
   obtain ⟨F, hF⟩ : ∃ F, (applyC x.l ⟨kd, nm, nn, vs⟩).1 = F := ⟨_, rfl⟩
   rw [HQ.out.m1, comL_one (by decide), hF] at hl7
   rw [HQ.out.m1, comF_one (by decide), hF]
   have HF := hide hF; have HL7 := hide hl7
   clear hs7 hb7 hm7 hl7 hf7 ht7 hbl7 hk7 hF HTW HS z0 z1 z2 z3
   obtain ⟨z0, z1, z2, z3⟩ := HCC.out _ HB7.out
   go_wp2_with fail
   refine (number_errV F _).mono ?_
   rintro e w8 ⟨rfl, hw8⟩
   subst hw8
   go_wp2_with fail
   have hcm := commitOne_any HT7.out.symm kd nn nm vs vo vc HQ7.out.f2 (by rw [HQ7.out.m2]; decide) (by rw [HQ7.out.m2]; decide) (HT.out.below HB7.out) (fun W hb => HROW.out.below (HB7.out.trans hb) (Nat.le_refl _)) HV.out
   rw [HQ7.out.s2] at hcm
   refine hcm.mono ?_
   clear hcm
   rintro e w9 ⟨y9, rfl, hs9, hb9, hm9, hl9, hf9, ht9, hbl9, base9, hk9⟩
   have HQ9 : Hid (WhoQ S B1 S2 x7 y9) := ⟨HQ7.out.s1, HQ7.out.b1, HQ7.out.m1, hs9.trans HQ7.out.s2, hm9.trans HQ7.out.m2, HQ7.out.f1, hf9⟩
   have HT9 := hide ht9.symm; have HB9 := hide (HB7.out.trans hbl9); have HS9 := hide (HS7.out.keptS hk9)
   rw [HQ7.out.m2, comL_one (by decide), ← HLL.out, HF.out] at hl9
   rw [HQ7.out.m2, comF_one (by decide), ← HLL.out, HF.out]
   have HLN : Hid (x7.l = y9.l) := HL7.out.trans hl9.symm
   clear hs9 hb9 hm9 hl9 hf9 ht9 hbl9 hk9 HT7 HB7 HS7 HQ7 HL7 HLL HQ HROW HCC z0 z1 z2 z3
   go_wp2_with fail
   refine (number_errV F _).mono ?_
   rintro e wa ⟨rfl, hwa⟩
   subst hwa
   go_wp2
   go_roundw
   case rel => exact ⟨k + 1, x7, y9, by omega, by go_num, HT9, HQ9, HLN, HS9, HB9⟩
   case measure => simp [intOf]; omega
  ·obtain rfl : k = N := by omega
   go_wp2_with fail
   have hbg := begin2_any HTW.out (X := X) (by rw [HQ.out.s1]; exact HS.out)
   refine hbg.mono ?_
   clear hbg
   rintro e w7 ⟨rfl, hi7, ht7, hk7⟩
   rw [HQ.out.s1] at hi7
   have HI7 := hide hi7; have HT7 := hide ht7
   have HB7 : Hid (Below w.heap.size w w7) := ⟨hk7.os.trans HBW.out.os, hk7.tape.trans HBW.out.tape, hk7.output.trans HBW.out.output, Nat.le_trans HBW.out.size hk7.size, fun b hb => (hk7.block b (by have := HBW.out.size; omega) (by have := HXL.out; omega)).trans (HBW.out.block b hb)⟩
   have HLY : Hid (y.l = x.l) := HLL.out.symm
   clear hi7 ht7 hk7 HTW HS HBW HLL
   go_wp2_with fail
   go_loopw [16] (fun ix wr => ∃ (k : Nat) (os : List OpC) (made : List Nmd) (y : Sto), k ≤ M ∧ ix = .int .i64 k ∧ Hid (InP wr w.heap.size X S os made) ∧ Hid (Two w.heap.size wr x y) ∧ Hid (WhoQ S B1 S2 x y) ∧ Hid (y.l = made) ∧ Hid (allC x.l (os.map (·.o)) = (0, made)) ∧ Hid (∀ q ∈ os, q.o.v.length ≤ 20) ∧ Hid (os.length ≤ k) ∧ Hid (Below w.heap.size w wr)) (fun ix _ => M - (intOf ix).toNat)
   case atStart => exact ⟨0, [], x.l, y, Nat.zero_le _, rfl, HI7, HT7, HQ, HLY, rfl, fun q hq => absurd hq (by simp), Nat.le_refl _, HB7⟩
   case round =>
    clear HI7 HT7 HQ HLY HB7
    obtain ⟨k, os, made, y, hk, rfl, HI, HTW, HQ, HLY, HAL, HVA, HOK, HBW⟩ := hrel
    have h12 : os.length ≤ 12 := by
     obtain ⟨_, _, _, _, _, _, _, _, -, -, -, h1, h2, -⟩ := HI.out
     omega
    by_cases hkl : k < M
    ·skip
     have hkd : k < o2.length := by rw [HM.out]; exact hkl
     obtain ⟨b, off, cap', e, hlt, c0, c1, c2, c3, hrow, -⟩ := HO2.out.at (List.getElem?_eq_getElem hkd)
     simp only [Value.slice.injEq] at e
     obtain ⟨rfl, -, rfl⟩ := e
     have HV := hide (HL2.out o2[k] (List.getElem_mem hkd))
     generalize o2[k] = q at *
     obtain ⟨⟨kd, nm, nn, vs⟩, vo, vc⟩ := q
     simp only [OpC.row] at c3 hrow
     dsimp only at c0 c1 c2 c3 hrow HV
     have HROW := hide hrow
     have HCC : Hid (∀ wr, Below w.heap.size w wr → wr.cell? ⟨b, off + k * 4, none⟩ = some (.int .i64 kd) ∧ wr.cell? ⟨b, off + k * 4 + 1, none⟩ = some (.string nm) ∧ wr.cell? ⟨b, off + k * 4 + 2, none⟩ = some (.int .i64 nn) ∧ wr.cell? ⟨b, off + k * 4 + 3, none⟩ = some (.slice vo vs.length vc)) := fun wr hbw =>
      ⟨(hbw.cell (p := ⟨b, off + k * 4, none⟩) hlt).trans c0, (hbw.cell (p := ⟨b, off + k * 4 + 1, none⟩) hlt).trans c1, (hbw.cell (p := ⟨b, off + k * 4 + 2, none⟩) hlt).trans c2, (hbw.cell (p := ⟨b, off + k * 4 + 3, none⟩) hlt).trans c3⟩
     clear c0 c1 c2 c3 hrow hkd
     obtain ⟨z0, z1, z2, z3⟩ := HCC.out _ HBW.out
     go_wp2_with fail
     have hdo := xadd2_any HTW.out (X := X) (os := os) (made := made) (by rw [HQ.out.s1]; exact HI.out) ⟨kd, nm, nn, vs⟩ vo vc (HROW.out.below HBW.out (Nat.le_refl _)) HV.out h12
     refine hdo.mono ?_
     clear hdo
     rintro e w8 ⟨rfl, ht8, hbl8, os8, hi8, hos8⟩
     rw [HQ.out.s1] at hi8
     have HT8 := hide ht8; have HB8 := hide (HBW.out.trans hbl8); have HI8 := hide hi8
     have HV8 : Hid (∀ q ∈ os8, q.o.v.length ≤ 20) := fun q hq => by
      have hm : q.o ∈ os8.map (·.o) := List.mem_map.2 ⟨q, hq, rfl⟩
      rw [hos8] at hm
      split at hm
      ·rcases List.mem_append.1 hm with hm | hm
       ·obtain ⟨p, hp, e⟩ := List.mem_map.1 hm
        rw [← e]; exact HVA.out p hp
       ·rw [List.mem_singleton] at hm
        rw [hm]; exact HV.out
      ·obtain ⟨p, hp, e⟩ := List.mem_map.1 hm
       rw [← e]; exact HVA.out p hp
     have HO8 : Hid (os8.length ≤ k + 1) := by
      show _ ≤ _
      have hl := congrArg List.length hos8
      rw [List.length_map] at hl
      have := HOK.out
      rw [hl]
      split
      ·simp; omega
      ·simp; omega
     have HA8 : Hid (allC x.l (os8.map (·.o)) = (0, if addO made os.length ⟨kd, nm, nn, vs⟩ = 0 then (applyC made ⟨kd, nm, nn, vs⟩).2 else made)) := by
      show _ = _
      rw [hos8]
      split
      ·rename_i h0
       rw [allC_app _ _ HAL.out, allC_cons]
       have h0' : (applyC made ⟨kd, nm, nn, vs⟩).1 = 0 := by
        unfold addO at h0
        split at h0
        ·cases h0
        ·exact h0
       rw [if_pos h0']; rfl
      ·exact HAL.out
     clear ht8 hbl8 hi8 hos8 HTW HBW HI HVA HAL z0 z1 z2 z3
     obtain ⟨z0, z1, z2, z3⟩ := HCC.out _ HB8.out
     by_cases hk12 : k < 12
     ·have g12 : decide ((k : Int) < 12) = true := decide_eq_true (by omega)
      obtain ⟨F, hF⟩ : ∃ F, (applyC made ⟨kd, nm, nn, vs⟩).1 = F := ⟨_, rfl⟩
      have eA : addO made os.length ⟨kd, nm, nn, vs⟩ = F := by
       unfold addO
       rw [if_neg (by have := HOK.out; omega), hF]
      rw [eA] at HI8 HA8 ⊢
      have HF := hide hF
      clear eA hF
      go_wp2_with fail
      have hcm := commitOne_any HT8.out.symm kd nn nm vs vo vc HQ.out.f2 (by rw [HQ.out.m2]; decide) (by rw [HQ.out.m2]; decide) (HT.out.below HB8.out) (fun W hb => HROW.out.below (HB8.out.trans hb) (Nat.le_refl _)) HV.out
      rw [HQ.out.s2] at hcm
      refine hcm.mono ?_
      clear hcm
      rintro e w9 ⟨y9, rfl, hs9, hb9, hm9, hl9, hf9, ht9, hbl9, base9, hk9⟩
      have HQ9 : Hid (WhoQ S B1 S2 x y9) := ⟨HQ.out.s1, HQ.out.b1, HQ.out.m1, hs9.trans HQ.out.s2, hm9.trans HQ.out.m2, HQ.out.f1, hf9⟩
      have HT9 := hide ht9.symm; have HB9 := hide (HB8.out.trans hbl9); have HI9 := hide (HI8.out.keptS hk9)
      rw [HQ.out.m2, comL_one (by decide), HLY.out, HF.out] at hl9
      rw [HQ.out.m2, comF_one (by decide), HLY.out, HF.out]
      have HL9 := hide hl9
      clear hs9 hb9 hm9 hl9 hf9 ht9 hbl9 hk9 HT8 HB8 HI8 HLY HQ HROW HCC z0 z1 z2 z3
      go_wp2_with fail
      refine (number_errV F _).mono ?_
      rintro e wa ⟨rfl, hwa⟩
      subst hwa
      go_wp2_with fail
      refine (number_errV F _).mono ?_
      rintro e wb ⟨rfl, hwb⟩
      subst hwb
      go_wp2
      go_roundw
      case rel => exact ⟨k + 1, os8, _, y9, by omega, by go_num, HI9, HT9, HQ9, HL9, HA8, HV8, HO8, HB9⟩
      case measure => simp [intOf]; omega
     ·have g12 : decide ((k : Int) < 12) = false := decide_eq_false (by omega)
      by_cases hA : addO made os.length ⟨kd, nm, nn, vs⟩ = 0
      ·have hF : (applyC made ⟨kd, nm, nn, vs⟩).1 = 0 := by
        unfold addO at hA
        split at hA
        ·cases hA
        ·exact hA
       rw [hA, if_pos rfl] at HI8 HA8
       rw [hA]
       have HF := hide hF
       clear hA hF
       rw [show errV 0 = .nilIface from rfl]
       go_wp2_with fail
       have hcm := commitOne_any HT8.out.symm kd nn nm vs vo vc HQ.out.f2 (by rw [HQ.out.m2]; decide) (by rw [HQ.out.m2]; decide) (HT.out.below HB8.out) (fun W hb => HROW.out.below (HB8.out.trans hb) (Nat.le_refl _)) HV.out
       rw [HQ.out.s2] at hcm
       refine hcm.mono ?_
       clear hcm
       rintro e w9 ⟨y9, rfl, hs9, hb9, hm9, hl9, hf9, ht9, hbl9, base9, hk9⟩
       have HQ9 : Hid (WhoQ S B1 S2 x y9) := ⟨HQ.out.s1, HQ.out.b1, HQ.out.m1, hs9.trans HQ.out.s2, hm9.trans HQ.out.m2, HQ.out.f1, hf9⟩
       have HT9 := hide ht9.symm; have HB9 := hide (HB8.out.trans hbl9); have HI9 := hide (HI8.out.keptS hk9)
       rw [HQ.out.m2, comL_one (by decide), HLY.out, if_pos HF.out] at hl9
       rw [HQ.out.m2, comF_one (by decide), HLY.out, HF.out]
       have HL9 := hide hl9
       clear hs9 hb9 hm9 hl9 hf9 ht9 hbl9 hk9 HT8 HB8 HI8 HLY HQ HROW HCC z0 z1 z2 z3
       go_wp2_with fail
       refine (number_errV 0 _).mono ?_
       rintro e wa ⟨rfl, hwa⟩
       subst hwa
       go_wp2
       go_roundw
       case rel => exact ⟨k + 1, os8, _, y9, by omega, by go_num, HI9, HT9, HQ9, HL9, HA8, HV8, HO8, HB9⟩
       case measure => simp [intOf]; omega
      ·rw [if_neg hA] at HI8 HA8
       have eE : errV (addO made os.length ⟨kd, nm, nn, vs⟩) = errno (addO made os.length ⟨kd, nm, nn, vs⟩ : Nat) := if_neg hA
       rw [eE]
       obtain ⟨A, hAA⟩ : ∃ A, addO made os.length ⟨kd, nm, nn, vs⟩ = A := ⟨_, rfl⟩
       rw [hAA]
       clear hAA eE hA HROW HCC
       go_wp2
       go_roundw
       case rel => exact ⟨k + 1, os8, made, y, by omega, by go_num, HI8, HT8, HQ, HLY, HA8, HV8, HO8, HB8⟩
       case measure => simp [intOf]; omega
    ·obtain rfl : k = M := by omega
     obtain ⟨T, oo, on, oc, o, n, c, qs, hse, hde, -, -, -, hcn, hqs, hok, -⟩ := id HI.out
     have HSE := hide hse; have HDE := hide hde; have CA := hide hcn; have QA := hide hqs; have OA := hide hok
     have HCF : Hid (comF x.l (os.map (·.o)) x.m = 0) := by
      show _ = _
      unfold comF
      rw [HAL.out, if_neg (by rw [List.length_map]; omega), if_neg (fun h => h rfl), if_neg (by rw [List.length_map, HQ.out.m1]; omega)]
     clear hse hde hcn hqs hok
     go_wp2_with fail
     refine (view1_any _ X S T _ o n c HSE.out HDE.out).mono ?_
     rintro e v1 ⟨rfl, hv1⟩
     have CA1 := hide (CA.out.below hv1); have HI1 := hide (HI.out.later hv1); have HT1 := hide (HTW.out.later hv1); have HB1 := hide (HBW.out.trans (hv1.mono HBW.out.size))
     have hla : qs.length ≤ 100 := by have := OA.out.few; rw [← QA.out, List.length_map] at this; omega
     clear hv1 CA HI HTW HBW HSE HDE
     go_wp2_with fail
     refine (lattices_any2 v1 _ qs ⟨_, rfl, CA1.out⟩ hla (by rw [QA.out]; exact OA.out.all)).mono ?_
     rintro e v2 ⟨u2, ra, rfl, hc2, hm2, hv2⟩
     obtain ⟨o2', k2', rfl, -⟩ := id hc2
     have RA : Hid (ra.map (·.x) = made) := by show _ = _; rw [hm2]; exact QA.out
     have hrl : ra.length ≤ 1000 := by have := congrArg List.length hm2; rw [List.length_map, List.length_map] at this; omega
     have HSZ : Hid (∀ p ∈ ra, p.x.gens.length ≤ 1000 ∧ ∀ g ∈ p.x.gens, g.length ≤ 1000000) := fun p hp => nm_sizes2 (OA.out.all p.x (by rw [← RA.out]; exact List.mem_map.2 ⟨p, hp, rfl⟩))
     obtain ⟨rn, hrn⟩ : ∃ rn, ra.length = rn := ⟨_, rfl⟩
     rw [hrn] at hc2 ⊢
     have CR2 := hide hc2; have HI2 := hide (HI1.out.later hv2); have HT2 := hide (HT1.out.later hv2); have HB2 := hide (HB1.out.trans (hv2.mono HB1.out.size))
     clear hc2 hm2 hv2 CA1 HI1 HT1 HB1 hla hrn
     obtain ⟨hb, ob, nb, cb, qb, Lb, xb, cnb, qlb, okb⟩ := HT2.out.symm.cat
     rw [HQ.out.s2] at xb
     have XB := hide xb; have CB := hide cnb; have QB := hide qlb; have OB := hide okb
     clear xb cnb qlb okb
     go_wp2_with fail
     refine (scat_any _ S2 _ hb ob nb cb _ XB.out).mono ?_
     rintro e v3 ⟨rfl, hv3⟩
     have CB3 := hide (CB.out.below hv3); have CR3 := hide (CR2.out.below hv3); have HI3 := hide (HI2.out.later hv3); have HT3 := hide (HT2.out.later hv3); have HB3 := hide (HB2.out.trans (hv3.mono HB2.out.size))
     have hlb : qb.length ≤ 100 := by have := OB.out.few; rw [← QB.out, List.length_map] at this; omega
     clear hv3 XB CB CR2 HI2 HT2 HB2
     go_wp2_with fail
     refine (lattices_any2 v3 _ qb ⟨_, rfl, CB3.out⟩ hlb (by rw [QB.out]; exact OB.out.all)).mono ?_
     rintro e v4 ⟨u4, rb, rfl, hc4, hm4, hv4⟩
     have RB : Hid (rb.map (·.x) = made) := by show _ = _; rw [hm4, QB.out]; exact HLY.out
     have CR4 := hide (CR3.out.below hv4); have CB4 := hide hc4; have HI4 := hide (HI3.out.later hv4); have HT4 := hide (HT3.out.later hv4); have HB4 := hide (HB3.out.trans (hv4.mono HB3.out.size))
     clear hc4 hm4 hv4 CB3 CR3 HI3 HT3 HB3 hlb
     go_wp2_with fail
     refine (sameCatalog_any v4 _ _ ra rb CR4.out CB4.out hrl HSZ.out true (by rw [RA.out, RB.out]; simp)).mono ?_
     rintro e v5 ⟨rfl, hv5⟩
     have CR5 := hide (CR4.out.below hv5); have HI5 := hide (HI4.out.later hv5); have HT5 := hide (HT4.out.later hv5); have HB5 := hide (HB4.out.trans (hv5.mono HB4.out.size))
     clear hv5 CR4 CB4 HI4 HT4 HB4 RB HSZ hrl
     go_wp2_with fail
     refine (xcommit2_any HT5.out (X := X) (os := os) (made := made) (by rw [HQ.out.s1]; exact HI5.out) HXL.out HQ.out.f1 (by rw [HQ.out.m1]; decide) (by rw [HQ.out.m1]; decide) (HT.out.below HB5.out) HVA.out HCF.out).mono ?_
     rintro e v6 ⟨x6, rfl, hs6, hb6, hm6, hl6, hf6, hse6, ht6, hbl6, hkk6⟩
     rw [HQ.out.s1] at hse6
     rw [HAL.out] at hl6
     have HS6 : Hid (x6.S = S) := hs6.trans HQ.out.s1
     have HBB6 : Hid (x6.B = B1) := hb6.trans HQ.out.b1
     have HM6 : Hid (x6.m = 120) := hm6.trans HQ.out.m1
     have HL6 : Hid (x6.l = made) := hl6
     have HSE6 := hide hse6; have HT6 := hide ht6; have HB6 := hide (HB5.out.trans hbl6); have CR6 := hide (CR5.out.keepK hkk6)
     clear hs6 hb6 hm6 hl6 hf6 hse6 ht6 hbl6 hkk6 HT5 HI5 HB5 CR5 HQ HCF HAL HLY HVA
     obtain ⟨ha, oa, na, ca, qa, La, xa, cna, qla, oka⟩ := HT6.out.cat
     rw [HS6.out] at xa
     rw [HL6.out] at qla oka
     have XA := hide xa; have CS := hide cna; have QS := hide qla
     clear xa cna qla oka
     go_wp2_with fail
     have hop := xopen2_any HT6.out (by rw [HM6.out]; decide) (by rw [HM6.out]; decide) (HT.out.below HB6.out) (HX.out.below HB6.out)
     rw [HBB6.out] at hop
     refine hop.mono ?_
     clear hop
     rintro e v7 ⟨Y, S7, rfl, -, hs7, ht7, hb7⟩
     obtain ⟨hd, od, nd, cd, qd, Ld, xd, cnd, qld, okd⟩ := ht7.cat
     simp only [HL6.out] at xd qld okd
     have XD := hide xd; have CD := hide cnd; have QD := hide qld; have SD := hide hs7
     have XA7 := hide (XA.out.later hb7); have CS7 := hide (CS.out.below hb7); have SE7 := hide (HSE6.out.later hb7); have CR7 := hide (CR6.out.below hb7); have HB7 := hide (HB6.out.trans (hb7.mono HB6.out.size))
     clear hs7 ht7 hb7 xd cnd qld okd XA CS HSE6 CR6 HB6 HT6
     go_wp2_with fail
     refine (view0_any _ X S _ ha oa na ca _ SE7.out XA7.out).mono ?_
     rintro e v8 ⟨rfl, hv8⟩
     have CS8 := hide (CS7.out.below hv8); have CR8 := hide (CR7.out.below hv8); have XD8 := hide (XD.out.later hv8); have CD8 := hide (CD.out.below hv8); have SD8 := hide (SD.out.later hv8); have HB8 := hide (HB7.out.trans (hv8.mono HB7.out.size))
     have hla : qa.length ≤ 100 := by have := OA.out.few; rw [← QS.out, List.length_map] at this; omega
     clear hv8 CS7 CR7 XD CD SD HB7 SE7 XA7
     go_wp2_with fail
     refine (lattices_any2 v8 _ qa ⟨_, rfl, CS8.out⟩ hla (by rw [QS.out]; exact OA.out.all)).mono ?_
     rintro e v9 ⟨u9, rs, rfl, hc9, hm9, hv9⟩
     obtain ⟨o9, k9, rfl, -⟩ := id hc9
     have RS : Hid (rs.map (·.x) = made) := by show _ = _; rw [hm9]; exact QS.out
     have hrl : rs.length ≤ 1000 := by have := congrArg List.length hm9; rw [List.length_map, List.length_map] at this; omega
     have HSZ : Hid (∀ p ∈ rs, p.x.gens.length ≤ 1000 ∧ ∀ g ∈ p.x.gens, g.length ≤ 1000000) := fun p hp => nm_sizes2 (OA.out.all p.x (by rw [← RS.out]; exact List.mem_map.2 ⟨p, hp, rfl⟩))
     have CT9 := hide hc9; have CR9 := hide (CR8.out.below hv9); have XD9 := hide (XD8.out.later hv9); have CD9 := hide (CD8.out.below hv9); have SD9 := hide (SD8.out.later hv9); have HB9 := hide (HB8.out.trans (hv9.mono HB8.out.size))
     clear hc9 hm9 hv9 CS8 CR8 XD8 CD8 SD8 HB8 hla
     go_wp2_with fail
     refine (sameCatalog_any v9 _ _ rs ra CT9.out CR9.out hrl HSZ.out true (by rw [RA.out, RS.out]; simp)).mono ?_
     rintro e va ⟨rfl, hva⟩
     have CRa := hide (CR9.out.below hva); have XDa := hide (XD9.out.later hva); have CDa := hide (CD9.out.below hva); have SDa := hide (SD9.out.later hva); have HBa := hide (HB9.out.trans (hva.mono HB9.out.size))
     clear hva CT9 CR9 XD9 CD9 SD9 HB9 HSZ hrl RS
     go_wp2_with fail
     refine (view0_any _ Y S7 _ hd od nd cd _ SDa.out XDa.out).mono ?_
     rintro e vb ⟨rfl, hvb⟩
     have CRb := hide (CRa.out.below hvb); have CDb := hide (CDa.out.below hvb); have HBb := hide (HBa.out.trans (hvb.mono HBa.out.size))
     have hld : qd.length ≤ 100 := by have := OA.out.few; rw [← QD.out, List.length_map] at this; omega
     clear hvb CRa XDa CDa SDa HBa
     go_wp2_with fail
     refine (lattices_any2 vb _ qd ⟨_, rfl, CDb.out⟩ hld (by rw [QD.out]; exact OA.out.all)).mono ?_
     rintro e vc ⟨uc, rt, rfl, hcc, hmc, hvc⟩
     have RT : Hid (rt.map (·.x) = made) := by show _ = _; rw [hmc]; exact QD.out
     have hrl : rt.length ≤ 1000 := by have := congrArg List.length hmc; rw [List.length_map, List.length_map] at this; omega
     have HSZ : Hid (∀ p ∈ rt, p.x.gens.length ≤ 1000 ∧ ∀ g ∈ p.x.gens, g.length ≤ 1000000) := fun p hp => nm_sizes2 (OA.out.all p.x (by rw [← RT.out]; exact List.mem_map.2 ⟨p, hp, rfl⟩))
     have CTc := hide hcc; have CRc := hide (CRb.out.below hvc); have HBc := hide (HBb.out.trans (hvc.mono HBb.out.size))
     clear hcc hmc hvc CRb CDb HBb
     go_wp2_with fail
     refine (sameCatalog_any vc _ _ rt ra CTc.out CRc.out hrl HSZ.out true (by rw [RA.out, RT.out]; simp)).mono ?_
     rintro e vd ⟨rfl, hvd⟩
     have HBd := hide (HBc.out.trans (hvd.mono HBc.out.size))
     clear hvd
     go_wp2
     go_ret
     exact ⟨rfl, HBd.out⟩

end Go.Proofs.YtnhbfehfipafoaaGreatDoor

/- Whole numbers that came in, in a row: as they read. -/
namespace Go.Proofs.YtnhbfehfipafoaaGreatDoor
open Go.ChangeShapes Go.WideShapes Go.ChangeAt Go.RowKit Go.Joins Limbs

theorem Tryz.cellsIntS : Tryz.prog.cellsOf 41 = 1 := by kernel_rfl
theorem Tryz.cellsInt : Tryz.prog.cellsOf 3 = 1 := by kernel_rfl

set_option maxRecDepth 100000 in
theorem open_rowS {H : Type} {enc : TypeId × Value → H} {W : World} {n : Nat} {v : Value} {y : DataW H × List MemPlace}
  (h : DataW.trod enc Tryz.prog W 0 (fun _ => true) true n 41 [v] = some y) : ∃ ks, RowS W v ks := by
 rcases open_ints Tryz.underlying41 Tryz.underlying3 Tryz.cellsInt h with ⟨hcs, _⟩ | ⟨x, l, c, zs, hcs, _, hl, hm, hz, _, hcell, hwz⟩
 ·simp only [List.cons.injEq, and_true] at hcs
  subst hcs
  exact ⟨[], none, 0, rfl, Nat.le_refl _, fun i => by simp, fun h => absurd h (by simp)⟩
 ·simp only [List.cons.injEq, and_true] at hcs
  subst hcs
  have hz' : zs.length = c := by simpa using hz
  have hlen : (zs.take l).length = l := by rw [List.length_take]; omega
  refine ⟨zs.take l, some x, c, by rw [hlen], by rw [hlen]; exact hl, fun i => ?_, fun h0 => ?_⟩
  ·by_cases hi : i < (zs.take l).length
   ·rw [List.getD_eq_getElem?_getD, List.getElem?_eq_getElem hi, Option.getD_some]
    have := hwz _ (List.mem_of_mem_take (List.getElem_mem hi))
    simp [Lit.wf, IntKind.min, IntKind.max, IntKind.signed, IntKind.bits] at this
    rw [List.getElem_take]
    omega
   ·rw [List.getD_eq_getElem?_getD, List.getElem?_eq_none (by omega)]
    simp
  ·obtain ⟨blk, off, spot⟩ := x
   rw [hlen] at h0
   have h00 := hcell 0 (by omega)
   have hspot : spot = none := by simpa [Addr.add] using World.cell?_spot h00
   subst hspot
   refine ⟨blk, off, rfl, World.block_lt_of_cell? W _ h00, fun i hi => ?_⟩
   rw [hlen] at hi
   have := hcell i (by omega)
   rw [getD_take zs l i (by omega)]
   by_cases hi0 : i = 0
   ·subst hi0; simpa [Addr.add] using this
   ·simpa [Addr.add, hi0] using this

end Go.Proofs.YtnhbfehfipafoaaGreatDoor

/- Operations that came in, as they read: all four cells. -/
namespace Go.Proofs.YtnhbfehfipafoaaGreatDoor
open Go.ChangeShapes Go.WideShapes Go.ChangeAt Go.RowKit Go.Joins

theorem Tryz.cellsOpF : Tryz.prog.cellsOf 43 = 4 := by kernel_rfl
theorem Tryz.cellsStrF : Tryz.prog.cellsOf 9 = 1 := by kernel_rfl

instance : Inhabited OpC := ⟨⟨⟨0, ⟨#[]⟩, 0, []⟩, none, 0⟩⟩

section
variable {H : Type} {enc : TypeId × Value → H} {W : World}

set_option maxRecDepth 100000 in
theorem open_opF {n : Nat} {cs : List Value} {y : DataW H × List MemPlace} (h : DataW.trod enc Tryz.prog W 0 (fun _ => true) true n 43 cs = some y) :
  ∃ q : OpC, cs[0]? = some (.int .i64 q.o.kind) ∧ cs[1]? = some (.string q.o.name) ∧ cs[2]? = some (.int .i64 q.o.n) ∧ cs[3]? = some q.row ∧ RowS W q.row q.o.v := by
 obtain ⟨xs, k, -, -, hl, hxl, hf⟩ := DataW.trod_struct Tryz.underlying43 h
 rw [Tryz.cellsOpF] at hl
 match cs, hl with
 | [v0, v1, v2, v3], _ =>
  match xs, hxl with
  | [x0, x1, x2, x3], _ =>
   have g0 : DataW.trod enc Tryz.prog W 0 (fun _ => true) true k 3 (([v0, v1, v2, v3].drop 0).take (Tryz.prog.cellsOf 3)) = [x0, x1, x2, x3][0]? := hf 0 _ rfl
   have g1 : DataW.trod enc Tryz.prog W 0 (fun _ => true) true k 9 (([v0, v1, v2, v3].drop 1).take (Tryz.prog.cellsOf 9)) = [x0, x1, x2, x3][1]? := hf 1 _ rfl
   have g2 : DataW.trod enc Tryz.prog W 0 (fun _ => true) true k 3 (([v0, v1, v2, v3].drop 2).take (Tryz.prog.cellsOf 3)) = [x0, x1, x2, x3][2]? := hf 2 _ rfl
   have g3 : DataW.trod enc Tryz.prog W 0 (fun _ => true) true k 41 (([v0, v1, v2, v3].drop 3).take (Tryz.prog.cellsOf 41)) = [x0, x1, x2, x3][3]? := hf 3 _ rfl
   rw [Tryz.cellsInt] at g0 g2
   rw [Tryz.cellsStrF] at g1
   rw [Tryz.cellsIntS] at g3
   obtain ⟨kd, e0, -, -⟩ := DataW.trod_int Tryz.underlying3 g0
   obtain ⟨name, e1, -, -⟩ := DataW.trod_string Tryz.underlying9 g1
   obtain ⟨nn, e2, -, -⟩ := DataW.trod_int Tryz.underlying3 g2
   obtain ⟨ks, hr⟩ := open_rowS (v := v3) g3
   have e0' : v0 = .int .i64 kd := by simpa using e0
   have e1' : v1 = .string name := by simpa using e1
   have e2' : v2 = .int .i64 nn := by simpa using e2
   obtain ⟨vo, vc, e3'⟩ := RowS.form hr
   subst e0' e1' e2' e3'
   exact ⟨⟨⟨kd, name, nn, ks⟩, vo, vc⟩, rfl, rfl, rfl, rfl, hr⟩

set_option maxRecDepth 100000 in
theorem open_opsN {n : Nat} {v : Value} {y : DataW H × List MemPlace} (h : DataW.trod enc Tryz.prog W 0 (fun _ => true) true n 44 [v] = some y) : ∃ os, OpsN W v os := by
 rcases Go.Deep.open_slice Tryz.underlying44 h with ⟨e, -⟩ | ⟨a, l, c, m, n, D, Pl, e, -, hl, hm, hmm, -, hc⟩
 ·have e' : v = .slice none 0 0 := by simpa using e
  exact ⟨[], none, 0, e', by decide, fun h => absurd h (by decide)⟩
 ·have e' : v = .slice (some a) l c := by simpa using e
  have hm' : l ≤ m := by simp at hmm; omega
  have each : ∀ i, i < l → ∃ q : OpC, W.cell? (a.add (i * 4 + 0)) = some (.int .i64 q.o.kind) ∧ W.cell? (a.add (i * 4 + 1)) = some (.string q.o.name) ∧ W.cell? (a.add (i * 4 + 2)) = some (.int .i64 q.o.n) ∧ W.cell? (a.add (i * 4 + 3)) = some q.row ∧ RowS W q.row q.o.v := fun i hi => by
   obtain ⟨cs, h1, h2⟩ := hc i (by omega)
   rw [Tryz.cellsOpF] at h1
   obtain ⟨-, hlen, hcell⟩ := World.cells?_some h1
   obtain ⟨q, e0, e1, e2, e3, hr⟩ := open_opF h2
   have c0 := hcell 0 (by omega)
   have c1 := hcell 1 (by omega)
   have c2 := hcell 2 (by omega)
   have c3 := hcell 3 (by omega)
   rw [Go.Deep.add_add, e0] at c0
   rw [Go.Deep.add_add, e1] at c1
   rw [Go.Deep.add_add, e2] at c2
   rw [Go.Deep.add_add, e3] at c3
   exact ⟨q, c0, c1, c2, c3, hr⟩
  obtain ⟨q, hq⟩ := Go.Deep.choose_lt each
  have hlen : ((List.range l).map q).length = l := by simp
  refine ⟨(List.range l).map q, some a, c, by rw [hlen]; exact e', by rw [hlen]; exact hl, fun h0 => ?_⟩
  rw [hlen] at h0
  obtain ⟨k0, -⟩ := hq 0 h0
  obtain ⟨blk, off, spot⟩ := a
  have hsp : spot = none := by simpa [Addr.add] using World.cell?_spot k0
  subst hsp
  refine ⟨blk, off, rfl, by simpa [Addr.add] using World.block_lt_of_cell? W _ k0, fun i r hi => ?_⟩
  obtain ⟨hi', e⟩ := List.getElem?_eq_some_iff.1 hi
  rw [hlen] at hi'
  have e2 : r = q i := by simpa using e.symm
  obtain ⟨c0, c1, c2, c3, hr⟩ := hq i hi'
  rw [Go.WideShapes.add_plain] at c0 c1 c2 c3
  rw [e2]
  refine ⟨by simpa using c0, ?_, ?_, ?_, hr⟩
  ·rw [Nat.add_assoc]; exact c1
  ·rw [Nat.add_assoc]; exact c2
  ·rw [Nat.add_assoc]; exact c3

set_option maxRecDepth 100000 in
theorem open_opsV {r : Reach} {b0 : Nat} {v : Value} {d : DataW H} {p : List MemPlace} (hv : Value.okWide Tryz.prog W r b0 44 v) (h : DataW.Trod enc Tryz.prog W 0 (fun _ => true) true 44 v d p) : ∃ os, OpsN W v os := by
 obtain ⟨a0, len, cap, rfl⟩ := okWide_slice Tryz.underlying44 hv
 obtain ⟨fuel, hf⟩ := h
 exact open_opsN (v := .slice a0 len cap) hf

end

end Go.Proofs.YtnhbfehfipafoaaGreatDoor
