/- TopDiv where there are too many limbs, or no numbers: nothing is said. -/
import Derived.Test.YtkfgfodghnafgaaDoorHold
import Derived.Test.YtkfgfodghnafgaaDoorTextS
import Derived.Test.YtkfgfodghnafgaaDoorRegions
namespace Go.Proofs.YtkfgfodghnafgaaDoor
open Go.RowKit Limbs

set_option maxRecDepth 100000 in
set_option maxHeartbeats 4000000 in
theorem topDiv_not (w : World) (an bn : Bool) (ao bo : Option Addr) (acap bcap : Nat) (za zb : List Int)
    (la : za.length ≤ 9223372036854775807) (lb : zb.length ≤ 9223372036854775807)
    (ha : za.length ≤ 1000000 → Lim w (.slice ao za.length acap) za) (hb : zb.length ≤ 1000000 → Lim w (.slice bo zb.length bcap) zb)
    (hnot : [Raw.mk an (.slice ao za.length acap) za, Raw.mk bn (.slice bo zb.length bcap) zb].all Raw.good = false) :
    Calls Tryd.prog 7 #[.agg #[.bool an, .slice ao za.length acap], .agg #[.bool bn, .slice bo zb.length bcap]] w fun e w' => e = .returned (.bool true) ∧ Below w.heap.size w w' := by
  have HA := hide ha; have HB := hide hb
  have HNOT := hide hnot
  clear ha hb hnot
  go_enter Tryd.func7, Tryd.ntmps7
  go_wp2_with fail
  have hT := two w (.bool an) (.slice ao za.length acap) (.bool bn) (.slice bo zb.length bcap) 33 33
  generalize (w.alloc (.cells #[.bool an, .slice ao za.length acap] 33)).alloc (.cells #[.bool bn, .slice bo zb.length bcap] 33) = W at *
  refine (of_any W (-7) (by decide) (by decide)).mono ?_
  rintro e w1 ⟨r1, rfl, hr1, hb1⟩
  replace hT := hT.later hb1
  have HR1 := hide hr1; clear hr1 hb1
  go_wp2_with fail
  refine (of_any w1 2 (by decide) (by decide)).mono ?_
  rintro e w2 ⟨r2, rfl, hr2, hb2⟩
  replace hT := hT.later hb2
  have HR2 := hide hr2
  replace HR1 := hide (HR1.out.below hb2 (Nat.le_refl _))
  clear hr2 hb2
  go_wp2_with fail
  refine (div_any w2 _ _ (-7) 2 2 2 HR1.out HR2.out (by decide) (by decide)).mono ?_
  rintro e w3 ⟨vq, vr, q, r, rfl, hq, hr, hqr, hle, hb3⟩
  obtain ⟨rfl, rfl⟩ : q = -4 ∧ r = 1 := by have := hle.1 (by decide); omega
  replace hT := hT.later hb3
  have HQ := hide hq
  have HR := hide hr
  obtain ⟨qn, qs, qz, rfl, hlq, -⟩ := hq
  obtain ⟨qo, qcap, rfl, -⟩ := hlq
  obtain ⟨rn, rs, rz, rfl, hlr, -⟩ := hr
  obtain ⟨ro, rcap, rfl, -⟩ := hlr
  clear hb3 HR1 HR2 hqr hle
  have hH := hold_new hT (.bool qn) (.slice qo qz.length qcap) (.bool rn) (.slice ro rz.length rcap) 33 33
  have hbn : Below w3.heap.size w3 ((w3.alloc (.cells #[.bool qn, .slice qo qz.length qcap] 33)).alloc (.cells #[.bool rn, .slice ro rz.length rcap] 33)) := ((Below.refl _ _).alloc (Nat.le_refl _) _).alloc (by simp) _
  replace HQ := hide (HQ.out.below hbn (Nat.le_refl _))
  replace HR := hide (HR.out.below hbn (Nat.le_refl _))
  clear hbn hT
  go_wp2_with fail
  generalize (w3.alloc (.cells #[.bool qn, .slice qo qz.length qcap] 33)).alloc (.cells #[.bool rn, .slice ro rz.length rcap] 33) = W4 at *
  generalize w3.heap.size = C at *
  refine (text_small W4 _ (-4) 3 HQ.out (by decide) (by decide) (by decide)).mono ?_
  rintro e w5 ⟨rfl, hb5⟩
  rw [show txt (-4) = [45, 52] by decide +kernel]
  replace hH := hH.later hb5
  replace HR := hide (HR.out.below hb5 (Nat.le_refl _))
  clear HQ hb5
  obtain ⟨x0, x1, -, -⟩ := hH.d
  go_wp2_with fail
  refine (text_small w5 _ 1 2 HR.out (by decide) (by decide) (by decide)).mono ?_
  rintro e w6 ⟨rfl, hb6⟩
  rw [show txt 1 = [49] by decide +kernel]
  replace hH := hH.later hb6
  clear HR hb6 x0 x1
  obtain ⟨p0, p1, -, -⟩ := hH.a
  obtain ⟨q0, q1, -, -⟩ := hH.b
  have hH6 := hide hH; clear hH
  by_cases c1 : (60 : Int) < (za.length : Int)
  · have d1 : decide (60 < (za.length : Int)) = true := decide_eq_true c1
    go_wp2
    go_ret
    exact ⟨rfl, hH6.out.below⟩
  have d1 : decide (60 < (za.length : Int)) = false := decide_eq_false c1
  by_cases c2 : (60 : Int) < (zb.length : Int)
  · have d2 : decide (60 < (zb.length : Int)) = true := decide_eq_true c2
    go_wp2
    go_ret
    exact ⟨rfl, hH6.out.below⟩
  have d2 : decide (60 < (zb.length : Int)) = false := decide_eq_false c2
  go_wp2_with fail
  refine (fit_any _ w6.heap.size [⟨an, .slice ao za.length acap, za⟩, ⟨bn, .slice bo zb.length bcap, zb⟩] (raws2 _ _ _ _ _ _ _ _ ((HA.out (by omega)).below hH6.out.below (Nat.le_refl _)) ((HB.out (by omega)).below hH6.out.below (Nat.le_refl _))) (by simp)).mono ?_
  rintro e w7 ⟨rfl, hb7⟩
  rw [HNOT.out]
  have hH7 := hide (hH6.out.later ((((Below.refl _ _).alloc (Nat.le_refl _) _).trans (hb7.mono (by simp)))))
  clear hH6 p0 p1 q0 q1 hb7 HA HB HNOT
  go_wp2
  go_ret
  exact ⟨rfl, hH7.out.below⟩

end Go.Proofs.YtkfgfodghnafgaaDoor
