/- TopRing, walked. -/
import Derived.Test.YtkfgfodghnafgaaDoorFit
import Derived.Test.YtkfgfodghnafgaaDoorOps2
import Derived.Test.YtkfgfodghnafgaaDoorTextS
import Derived.Test.YtkfgfodghnafgaaDoorRaws
namespace Go.Proofs.YtkfgfodghnafgaaDoor
open Go.RowKit Limbs

set_option maxRecDepth 100000 in
set_option maxHeartbeats 8000000 in
theorem topRing_fit (w : World) (an bn cn : Bool) (ao bo co : Option Addr) (acap bcap ccap : Nat) (za zb zc : List Int)
    (ha : Lim w (.slice ao za.length acap) za) (hb : Lim w (.slice bo zb.length bcap) zb) (hc : Lim w (.slice co zc.length ccap) zc)
    (la : za.length ≤ 12) (lb : zb.length ≤ 12) (lc : zc.length ≤ 12) (ga : isNum an za = true) (gb : isNum bn zb = true) (gc : isNum cn zc = true) :
    Calls Tryd.prog 6 #[.agg #[.bool an, .slice ao za.length acap], .agg #[.bool bn, .slice bo zb.length bcap], .agg #[.bool cn, .slice co zc.length ccap]] w fun e w' => e = .returned (.bool true) ∧ Below w.heap.size w w' := by
  have HA := hide ha; have HB := hide hb; have HC := hide hc
  have NA := hide (NumL.of_isNum ga ha la); have NB := hide (NumL.of_isNum gb hb lb); have NC := hide (NumL.of_isNum gc hc lc)
  clear ha hb hc
  have HG : Hid ([⟨an, .slice ao za.length acap, za⟩, ⟨bn, .slice bo zb.length bcap, zb⟩, ⟨cn, .slice co zc.length ccap, zc⟩].all Raw.good = true) := by
    show _ = _; simp [Raw.good, ga, gb, gc, la, lb, lc]
  clear ga gb gc
  go_enter Tryd.func6, Tryd.ntmps6
  go_wp2_with fail
  have hT := three w (.bool an) (.slice ao za.length acap) (.bool bn) (.slice bo zb.length bcap) (.bool cn) (.slice co zc.length ccap) 33 33 33
  generalize ((w.alloc (.cells #[.bool an, .slice ao za.length acap] 33)).alloc (.cells #[.bool bn, .slice bo zb.length bcap] 33)).alloc (.cells #[.bool cn, .slice co zc.length ccap] 33) = W at *
  refine (of_any W 2 (by decide) (by decide)).mono ?_
  rintro e w1 ⟨r1, rfl, hr1, hb1⟩
  replace hT := hT.later hb1
  have HR1 := hide hr1; clear hr1 hb1
  go_wp2_with fail
  refine (of_any w1 3 (by decide) (by decide)).mono ?_
  rintro e w2 ⟨r2, rfl, hr2, hb2⟩
  replace hT := hT.later hb2
  have HR2 := hide hr2
  replace HR1 := hide (HR1.out.below hb2 (Nat.le_refl _))
  clear hr2 hb2
  go_wp2_with fail
  refine (add_any w2 _ _ 2 3 2 HR1.out HR2.out (by decide)).mono ?_
  rintro e w2' ⟨r3, rfl, hr3, hb2'⟩
  replace hT := hT.later hb2'
  have HR3 := hide hr3
  clear HR1 HR2 hr3 hb2'
  go_wp2_with fail
  refine (text_small w2' _ (2 + 3) 3 HR3.out (by decide) (by decide) (by decide)).mono ?_
  rintro e w3 ⟨rfl, hb3⟩
  replace hT := hT.later hb3
  clear HR3 hb3
  rw [show txt (2 + 3) = [53] by decide +kernel]
  obtain ⟨p0, p1, -, -⟩ := hT.fst
  obtain ⟨q0, q1, -, -⟩ := hT.snd
  obtain ⟨s0, s1, -, -⟩ := hT.res
  have hT3 := hide hT; clear hT
  have d1 : decide (60 < (za.length : Int)) = false := by simp; omega
  have d2 : decide (60 < (zb.length : Int)) = false := by simp; omega
  have d3 : decide (60 < (zc.length : Int)) = false := by simp; omega
  go_wp2_with fail
  refine (fit_any _ w3.heap.size [⟨an, .slice ao za.length acap, za⟩, ⟨bn, .slice bo zb.length bcap, zb⟩, ⟨cn, .slice co zc.length ccap, zc⟩] (raws3 _ _ _ _ _ _ _ _ _ _ _ (HA.out.below hT3.out.below (Nat.le_refl _)) (HB.out.below hT3.out.below (Nat.le_refl _)) (HC.out.below hT3.out.below (Nat.le_refl _))) (by simp)).mono ?_
  rintro e w4 ⟨rfl, hb4⟩
  rw [HG.out]
  have hT0 := hide (hT3.out.later ((((Below.refl _ _).alloc (Nat.le_refl _) _).trans (hb4.mono (by simp)))))
  clear hT3 p0 p1 q0 q1 s0 s1 hb4 HA HB HC HG
  obtain ⟨p0, p1, -, -⟩ := hT0.out.fst
  obtain ⟨q0, q1, -, -⟩ := hT0.out.snd
  obtain ⟨s0, s1, -, -⟩ := hT0.out.res
  generalize sg an (lv za) = x at *
  generalize sg bn (lv zb) = y at *
  generalize sg cn (lv zc) = z at *
  have E3 := hide (show (cmpI (x + y) (y + x) == 0) = true by rw [cmpI_eq (by omega)]; rfl)
  have E6 := hide (show (cmpI (x * y) (y * x) == 0) = true by rw [cmpI_eq (Int.mul_comm x y)]; rfl)
  have E11 := hide (show (cmpI (x + (y + z)) ((x + y) + z) == 0) = true by rw [cmpI_eq (by omega)]; rfl)
  have E16 := hide (show (cmpI (x * (y * z)) ((x * y) * z) == 0) = true by rw [cmpI_eq (Int.mul_assoc x y z).symm]; rfl)
  have E22 := hide (show (cmpI (x * (y + z)) ((x * y) + (x * z)) == 0) = true by rw [cmpI_eq (Int.mul_add x y z)]; rfl)
  have E25 := hide (show (cmpI ((x + y) - y) x == 0) = true by rw [cmpI_eq (by omega)]; rfl)
  have E28 := hide (show decide ((x + (-x)) = 0) = true from decide_eq_true (by omega))
  have tok1 : True := trivial
  have tok2 : True := trivial
  have tok3 : True := trivial
  have tok4 : True := trivial
  have tok5 : True := trivial
  have tok6 : True := trivial
  have tok7 : True := trivial
  have tok8 : True := trivial
  have tok9 : True := trivial
  have tok10 : True := trivial
  have tok11 : True := trivial
  have tok12 : True := trivial
  have tok13 : True := trivial
  have tok14 : True := trivial
  have tok15 : True := trivial
  have tok16 : True := trivial
  have tok17 : True := trivial
  have tok18 : True := trivial
  have tok19 : True := trivial
  have tok20 : True := trivial
  have tok21 : True := trivial
  have tok22 : True := trivial
  have tok23 : True := trivial
  have tok24 : True := trivial
  have tok25 : True := trivial
  have tok26 : True := trivial
  have tok27 : True := trivial
  have tok28 : True := trivial
  clear d1 d2 d3 la lb lc
  go_wp2_with fail
  simp only [List.append_eq, List.cons_append, List.nil_append]
  go_region_held3 (fun w' => w'.cell? ⟨w.heap.size, 0, none⟩ = some (.bool an) ∧ w'.cell? ⟨w.heap.size, 1, none⟩ = some (.slice ao za.length acap) ∧ w'.cell? ⟨w.heap.size + 1, 0, none⟩ = some (.bool bn) ∧ w'.cell? ⟨w.heap.size + 1, 1, none⟩ = some (.slice bo zb.length bcap) ∧ w'.cell? ⟨w.heap.size + 1 + 1, 0, none⟩ = some (.bool cn) ∧ w'.cell? ⟨w.heap.size + 1 + 1, 1, none⟩ = some (.slice co zc.length ccap)) (go_keep)
    (first
      | (go_at_call 26; have _t := tok1; refine (add_any _ _ _ _ _ 12 (NA.out.below hT0.out.drew.below (Nat.le_refl _)) (NB.out.below hT0.out.drew.below (Nat.le_refl _)) (by decide)).mono ?_; rintro e w1 ⟨r1, rfl, hr1, hb1⟩; have HR1 := hide hr1; clear hr1; have hT1 := hide (hT0.out.drew.later hb1); clear hb1 tok1; obtain ⟨p0, p1, -, -⟩ := hT1.out.fst; obtain ⟨q0, q1, -, -⟩ := hT1.out.snd; obtain ⟨s0, s1, -, -⟩ := hT1.out.res)
      | (go_at_call 26; have _t := tok2; refine (add_any _ _ _ _ _ 12 (NB.out.below hT1.out.below (Nat.le_refl _)) (NA.out.below hT1.out.below (Nat.le_refl _)) (by decide)).mono ?_; rintro e w2 ⟨r2, rfl, hr2, hb2⟩; have HR2 := hide hr2; clear hr2; have hT2 := hide (hT1.out.later hb2); replace HR1 := hide (HR1.out.below hb2 (Nat.le_refl _)); clear hb2 tok2 hT1; obtain ⟨p0, p1, -, -⟩ := hT2.out.fst; obtain ⟨q0, q1, -, -⟩ := hT2.out.snd; obtain ⟨s0, s1, -, -⟩ := hT2.out.res)
      | (go_at_call 42; have _t := tok3; refine (is_any _ _ _ _ _ 13 13 HR1.out HR2.out).mono ?_; rintro e w3 ⟨rfl, hb3⟩; rw [E3.out]; have hT3 := hide (hT2.out.later hb3); clear hb3 tok3 hT2 HR1 HR2; obtain ⟨p0, p1, -, -⟩ := hT3.out.fst; obtain ⟨q0, q1, -, -⟩ := hT3.out.snd; obtain ⟨s0, s1, -, -⟩ := hT3.out.res)
      | (go_at_call 28; have _t := tok4; refine (mul_any _ _ _ _ _ 12 12 (NA.out.below hT3.out.below (Nat.le_refl _)) (NB.out.below hT3.out.below (Nat.le_refl _)) (by decide) (by decide)).mono ?_; rintro e w4 ⟨r4, rfl, hr4, hb4⟩; have HR4 := hide hr4; clear hr4; have hT4 := hide (hT3.out.later hb4); clear hb4 tok4 hT3; obtain ⟨p0, p1, -, -⟩ := hT4.out.fst; obtain ⟨q0, q1, -, -⟩ := hT4.out.snd; obtain ⟨s0, s1, -, -⟩ := hT4.out.res)
      | (go_at_call 28; have _t := tok5; refine (mul_any _ _ _ _ _ 12 12 (NB.out.below hT4.out.below (Nat.le_refl _)) (NA.out.below hT4.out.below (Nat.le_refl _)) (by decide) (by decide)).mono ?_; rintro e w5 ⟨r5, rfl, hr5, hb5⟩; have HR5 := hide hr5; clear hr5; have hT5 := hide (hT4.out.later hb5); replace HR4 := hide (HR4.out.below hb5 (Nat.le_refl _)); clear hb5 tok5 hT4; obtain ⟨p0, p1, -, -⟩ := hT5.out.fst; obtain ⟨q0, q1, -, -⟩ := hT5.out.snd; obtain ⟨s0, s1, -, -⟩ := hT5.out.res)
      | (go_at_call 42; have _t := tok6; refine (is_any _ _ _ _ _ 24 24 HR4.out HR5.out).mono ?_; rintro e w6 ⟨rfl, hb6⟩; rw [E6.out]; have hT6 := hide (hT5.out.later hb6); clear hb6 tok6 hT5 HR4 HR5; obtain ⟨p0, p1, -, -⟩ := hT6.out.fst; obtain ⟨q0, q1, -, -⟩ := hT6.out.snd; obtain ⟨s0, s1, -, -⟩ := hT6.out.res)
      | (go_at_call 26; have _t := tok7; refine (add_any _ _ _ _ _ 12 (NB.out.below hT6.out.below (Nat.le_refl _)) (NC.out.below hT6.out.below (Nat.le_refl _)) (by decide)).mono ?_; rintro e w7 ⟨r7, rfl, hr7, hb7⟩; have HR7 := hide hr7; clear hr7; have hT7 := hide (hT6.out.later hb7); clear hb7 tok7 hT6; obtain ⟨p0, p1, -, -⟩ := hT7.out.fst; obtain ⟨q0, q1, -, -⟩ := hT7.out.snd; obtain ⟨s0, s1, -, -⟩ := hT7.out.res)
      | (go_at_call 26; have _t := tok8; refine (add_any _ _ _ _ _ 13 ((NA.out.below hT7.out.below (Nat.le_refl _)).mono (by decide)) HR7.out (by decide)).mono ?_; rintro e w8 ⟨r8, rfl, hr8, hb8⟩; have HR8 := hide hr8; clear hr8; have hT8 := hide (hT7.out.later hb8); clear hb8 tok8 hT7 HR7; obtain ⟨p0, p1, -, -⟩ := hT8.out.fst; obtain ⟨q0, q1, -, -⟩ := hT8.out.snd; obtain ⟨s0, s1, -, -⟩ := hT8.out.res)
      | (go_at_call 26; have _t := tok9; refine (add_any _ _ _ _ _ 12 (NA.out.below hT8.out.below (Nat.le_refl _)) (NB.out.below hT8.out.below (Nat.le_refl _)) (by decide)).mono ?_; rintro e w9 ⟨r9, rfl, hr9, hb9⟩; have HR9 := hide hr9; clear hr9; have hT9 := hide (hT8.out.later hb9); replace HR8 := hide (HR8.out.below hb9 (Nat.le_refl _)); clear hb9 tok9 hT8; obtain ⟨p0, p1, -, -⟩ := hT9.out.fst; obtain ⟨q0, q1, -, -⟩ := hT9.out.snd; obtain ⟨s0, s1, -, -⟩ := hT9.out.res)
      | (go_at_call 26; have _t := tok10; refine (add_any _ _ _ _ _ 13 HR9.out ((NC.out.below hT9.out.below (Nat.le_refl _)).mono (by decide)) (by decide)).mono ?_; rintro e w10 ⟨r10, rfl, hr10, hb10⟩; have HR10 := hide hr10; clear hr10; have hT10 := hide (hT9.out.later hb10); replace HR8 := hide (HR8.out.below hb10 (Nat.le_refl _)); clear hb10 tok10 hT9 HR9; obtain ⟨p0, p1, -, -⟩ := hT10.out.fst; obtain ⟨q0, q1, -, -⟩ := hT10.out.snd; obtain ⟨s0, s1, -, -⟩ := hT10.out.res)
      | (go_at_call 42; have _t := tok11; refine (is_any _ _ _ _ _ 14 14 HR8.out HR10.out).mono ?_; rintro e w11 ⟨rfl, hb11⟩; rw [E11.out]; have hT11 := hide (hT10.out.later hb11); clear hb11 tok11 hT10 HR8 HR10; obtain ⟨p0, p1, -, -⟩ := hT11.out.fst; obtain ⟨q0, q1, -, -⟩ := hT11.out.snd; obtain ⟨s0, s1, -, -⟩ := hT11.out.res)
      | (go_at_call 28; have _t := tok12; refine (mul_any _ _ _ _ _ 12 12 (NB.out.below hT11.out.below (Nat.le_refl _)) (NC.out.below hT11.out.below (Nat.le_refl _)) (by decide) (by decide)).mono ?_; rintro e w12 ⟨r12, rfl, hr12, hb12⟩; have HR12 := hide hr12; clear hr12; have hT12 := hide (hT11.out.later hb12); clear hb12 tok12 hT11; obtain ⟨p0, p1, -, -⟩ := hT12.out.fst; obtain ⟨q0, q1, -, -⟩ := hT12.out.snd; obtain ⟨s0, s1, -, -⟩ := hT12.out.res)
      | (go_at_call 28; have _t := tok13; refine (mul_any _ _ _ _ _ 12 24 (NA.out.below hT12.out.below (Nat.le_refl _)) HR12.out (by decide) (by decide)).mono ?_; rintro e w13 ⟨r13, rfl, hr13, hb13⟩; have HR13 := hide hr13; clear hr13; have hT13 := hide (hT12.out.later hb13); clear hb13 tok13 hT12 HR12; obtain ⟨p0, p1, -, -⟩ := hT13.out.fst; obtain ⟨q0, q1, -, -⟩ := hT13.out.snd; obtain ⟨s0, s1, -, -⟩ := hT13.out.res)
      | (go_at_call 28; have _t := tok14; refine (mul_any _ _ _ _ _ 12 12 (NA.out.below hT13.out.below (Nat.le_refl _)) (NB.out.below hT13.out.below (Nat.le_refl _)) (by decide) (by decide)).mono ?_; rintro e w14 ⟨r14, rfl, hr14, hb14⟩; have HR14 := hide hr14; clear hr14; have hT14 := hide (hT13.out.later hb14); replace HR13 := hide (HR13.out.below hb14 (Nat.le_refl _)); clear hb14 tok14 hT13; obtain ⟨p0, p1, -, -⟩ := hT14.out.fst; obtain ⟨q0, q1, -, -⟩ := hT14.out.snd; obtain ⟨s0, s1, -, -⟩ := hT14.out.res)
      | (go_at_call 28; have _t := tok15; refine (mul_any _ _ _ _ _ 24 12 HR14.out (NC.out.below hT14.out.below (Nat.le_refl _)) (by decide) (by decide)).mono ?_; rintro e w15 ⟨r15, rfl, hr15, hb15⟩; have HR15 := hide hr15; clear hr15; have hT15 := hide (hT14.out.later hb15); replace HR13 := hide (HR13.out.below hb15 (Nat.le_refl _)); clear hb15 tok15 hT14 HR14; obtain ⟨p0, p1, -, -⟩ := hT15.out.fst; obtain ⟨q0, q1, -, -⟩ := hT15.out.snd; obtain ⟨s0, s1, -, -⟩ := hT15.out.res)
      | (go_at_call 42; have _t := tok16; refine (is_any _ _ _ _ _ 36 36 HR13.out HR15.out).mono ?_; rintro e w16 ⟨rfl, hb16⟩; rw [E16.out]; have hT16 := hide (hT15.out.later hb16); clear hb16 tok16 hT15 HR13 HR15; obtain ⟨p0, p1, -, -⟩ := hT16.out.fst; obtain ⟨q0, q1, -, -⟩ := hT16.out.snd; obtain ⟨s0, s1, -, -⟩ := hT16.out.res)
      | (go_at_call 26; have _t := tok17; refine (add_any _ _ _ _ _ 12 (NB.out.below hT16.out.below (Nat.le_refl _)) (NC.out.below hT16.out.below (Nat.le_refl _)) (by decide)).mono ?_; rintro e w17 ⟨r17, rfl, hr17, hb17⟩; have HR17 := hide hr17; clear hr17; have hT17 := hide (hT16.out.later hb17); clear hb17 tok17 hT16; obtain ⟨p0, p1, -, -⟩ := hT17.out.fst; obtain ⟨q0, q1, -, -⟩ := hT17.out.snd; obtain ⟨s0, s1, -, -⟩ := hT17.out.res)
      | (go_at_call 28; have _t := tok18; refine (mul_any _ _ _ _ _ 12 13 (NA.out.below hT17.out.below (Nat.le_refl _)) HR17.out (by decide) (by decide)).mono ?_; rintro e w18 ⟨r18, rfl, hr18, hb18⟩; have HR18 := hide hr18; clear hr18; have hT18 := hide (hT17.out.later hb18); clear hb18 tok18 hT17 HR17; obtain ⟨p0, p1, -, -⟩ := hT18.out.fst; obtain ⟨q0, q1, -, -⟩ := hT18.out.snd; obtain ⟨s0, s1, -, -⟩ := hT18.out.res)
      | (go_at_call 28; have _t := tok19; refine (mul_any _ _ _ _ _ 12 12 (NA.out.below hT18.out.below (Nat.le_refl _)) (NB.out.below hT18.out.below (Nat.le_refl _)) (by decide) (by decide)).mono ?_; rintro e w19 ⟨r19, rfl, hr19, hb19⟩; have HR19 := hide hr19; clear hr19; have hT19 := hide (hT18.out.later hb19); replace HR18 := hide (HR18.out.below hb19 (Nat.le_refl _)); clear hb19 tok19 hT18; obtain ⟨p0, p1, -, -⟩ := hT19.out.fst; obtain ⟨q0, q1, -, -⟩ := hT19.out.snd; obtain ⟨s0, s1, -, -⟩ := hT19.out.res)
      | (go_at_call 28; have _t := tok20; refine (mul_any _ _ _ _ _ 12 12 (NA.out.below hT19.out.below (Nat.le_refl _)) (NC.out.below hT19.out.below (Nat.le_refl _)) (by decide) (by decide)).mono ?_; rintro e w20 ⟨r20, rfl, hr20, hb20⟩; have HR20 := hide hr20; clear hr20; have hT20 := hide (hT19.out.later hb20); replace HR18 := hide (HR18.out.below hb20 (Nat.le_refl _)); replace HR19 := hide (HR19.out.below hb20 (Nat.le_refl _)); clear hb20 tok20 hT19; obtain ⟨p0, p1, -, -⟩ := hT20.out.fst; obtain ⟨q0, q1, -, -⟩ := hT20.out.snd; obtain ⟨s0, s1, -, -⟩ := hT20.out.res)
      | (go_at_call 26; have _t := tok21; refine (add_any _ _ _ _ _ 24 HR19.out HR20.out (by decide)).mono ?_; rintro e w21 ⟨r21, rfl, hr21, hb21⟩; have HR21 := hide hr21; clear hr21; have hT21 := hide (hT20.out.later hb21); replace HR18 := hide (HR18.out.below hb21 (Nat.le_refl _)); clear hb21 tok21 hT20 HR19 HR20; obtain ⟨p0, p1, -, -⟩ := hT21.out.fst; obtain ⟨q0, q1, -, -⟩ := hT21.out.snd; obtain ⟨s0, s1, -, -⟩ := hT21.out.res)
      | (go_at_call 42; have _t := tok22; refine (is_any _ _ _ _ _ 25 25 HR18.out HR21.out).mono ?_; rintro e w22 ⟨rfl, hb22⟩; rw [E22.out]; have hT22 := hide (hT21.out.later hb22); clear hb22 tok22 hT21 HR18 HR21; obtain ⟨p0, p1, -, -⟩ := hT22.out.fst; obtain ⟨q0, q1, -, -⟩ := hT22.out.snd; obtain ⟨s0, s1, -, -⟩ := hT22.out.res)
      | (go_at_call 26; have _t := tok23; refine (add_any _ _ _ _ _ 12 (NA.out.below hT22.out.below (Nat.le_refl _)) (NB.out.below hT22.out.below (Nat.le_refl _)) (by decide)).mono ?_; rintro e w23 ⟨r23, rfl, hr23, hb23⟩; have HR23 := hide hr23; clear hr23; have hT23 := hide (hT22.out.later hb23); clear hb23 tok23 hT22; obtain ⟨p0, p1, -, -⟩ := hT23.out.fst; obtain ⟨q0, q1, -, -⟩ := hT23.out.snd; obtain ⟨s0, s1, -, -⟩ := hT23.out.res)
      | (go_at_call 27; have _t := tok24; refine (sub_any _ _ _ _ _ 13 HR23.out ((NB.out.below hT23.out.below (Nat.le_refl _)).mono (by decide)) (by decide)).mono ?_; rintro e w24 ⟨r24, rfl, hr24, hb24⟩; have HR24 := hide hr24; clear hr24; have hT24 := hide (hT23.out.later hb24); clear hb24 tok24 hT23 HR23; obtain ⟨p0, p1, -, -⟩ := hT24.out.fst; obtain ⟨q0, q1, -, -⟩ := hT24.out.snd; obtain ⟨s0, s1, -, -⟩ := hT24.out.res)
      | (go_at_call 42; have _t := tok25; refine (is_any _ _ _ _ _ 14 12 HR24.out (NA.out.below hT24.out.below (Nat.le_refl _))).mono ?_; rintro e w25 ⟨rfl, hb25⟩; rw [E25.out]; have hT25 := hide (hT24.out.later hb25); clear hb25 tok25 hT24 HR24; obtain ⟨p0, p1, -, -⟩ := hT25.out.fst; obtain ⟨q0, q1, -, -⟩ := hT25.out.snd; obtain ⟨s0, s1, -, -⟩ := hT25.out.res)
      | (go_at_call 24; have _t := tok26; refine (neg_any _ _ _ 12 (NA.out.below hT25.out.below (Nat.le_refl _)) (by decide)).mono ?_; rintro e w26 ⟨r26, rfl, hr26, hb26⟩; have HR26 := hide hr26; clear hr26; have hT26 := hide (hT25.out.later hb26); clear hb26 tok26 hT25; obtain ⟨p0, p1, -, -⟩ := hT26.out.fst; obtain ⟨q0, q1, -, -⟩ := hT26.out.snd; obtain ⟨s0, s1, -, -⟩ := hT26.out.res)
      | (go_at_call 26; have _t := tok27; refine (add_any _ _ _ _ _ 12 (NA.out.below hT26.out.below (Nat.le_refl _)) HR26.out (by decide)).mono ?_; rintro e w27 ⟨r27, rfl, hr27, hb27⟩; have HR27 := hide hr27; clear hr27; have hT27 := hide (hT26.out.later hb27); clear hb27 tok27 hT26 HR26; obtain ⟨p0, p1, -, -⟩ := hT27.out.fst; obtain ⟨q0, q1, -, -⟩ := hT27.out.snd; obtain ⟨s0, s1, -, -⟩ := hT27.out.res)
      | (go_at_call 21; have _t := tok28; refine (zero_any _ _ _ 13 HR27.out).mono ?_; rintro e w28 ⟨rfl, hb28⟩; rw [E28.out]; have hT28 := hide (hT27.out.later hb28); clear hb28 tok28 hT27 HR27; obtain ⟨p0, p1, -, -⟩ := hT28.out.fst; obtain ⟨q0, q1, -, -⟩ := hT28.out.snd; obtain ⟨s0, s1, -, -⟩ := hT28.out.res))
  go_wp2
  go_ret
  exact ⟨rfl, hT28.out.below⟩

end Go.Proofs.YtkfgfodghnafgaaDoor
