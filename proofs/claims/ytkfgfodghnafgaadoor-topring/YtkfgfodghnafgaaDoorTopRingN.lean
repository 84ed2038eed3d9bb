/- TopRing where there are too many limbs, or no numbers: nothing is said. -/
import Derived.Test.YtkfgfodghnafgaaDoorFit
import Derived.Test.YtkfgfodghnafgaaDoorOps2
import Derived.Test.YtkfgfodghnafgaaDoorTextS
import Derived.Test.YtkfgfodghnafgaaDoorRaws
namespace Go.Proofs.YtkfgfodghnafgaaDoor
open Go.RowKit Limbs

set_option maxRecDepth 100000 in
set_option maxHeartbeats 1000000 in
theorem topRing_not (w : World) (an bn cn : Bool) (ao bo co : Option Addr) (acap bcap ccap : Nat) (za zb zc : List Int)
    (la : za.length ≤ 9223372036854775807) (lb : zb.length ≤ 9223372036854775807) (lc : zc.length ≤ 9223372036854775807)
    (ha : za.length ≤ 1000000 → Lim w (.slice ao za.length acap) za) (hb : zb.length ≤ 1000000 → Lim w (.slice bo zb.length bcap) zb) (hc : zc.length ≤ 1000000 → Lim w (.slice co zc.length ccap) zc)
    (hnot : [Raw.mk an (.slice ao za.length acap) za, Raw.mk bn (.slice bo zb.length bcap) zb, Raw.mk cn (.slice co zc.length ccap) zc].all Raw.good = false) :
    Calls Tryd.prog 6 #[.agg #[.bool an, .slice ao za.length acap], .agg #[.bool bn, .slice bo zb.length bcap], .agg #[.bool cn, .slice co zc.length ccap]] w fun e w' => e = .returned (.bool true) ∧ Below w.heap.size w w' := by
  have HA := hide ha; have HB := hide hb; have HC := hide hc
  have HN := hide hnot
  clear ha hb hc hnot
  go_enter Tryd.func6, Tryd.ntmps6
  go_wp2_with fail
  have hT := three w (.bool an) (.slice ao za.length acap) (.bool bn) (.slice bo zb.length bcap) (.bool cn) (.slice co zc.length ccap) 33 33 33
  generalize ((w.alloc (.cells #[.bool an, .slice ao za.length acap] 33)).alloc (.cells #[.bool bn, .slice bo zb.length bcap] 33)).alloc (.cells #[.bool cn, .slice co zc.length ccap] 33) = W at *
  refine (of_any W 2 (by decide) (by decide)).mono ?_
  rintro e w1 ⟨r1, rfl, hr1, hb1⟩
  replace hT := hT.later hb1
  have HR1 := hide hr1; clear hr1 hb1
  go_wp2_with fail
  refine (of_any w1 3 (by decide) (by decide)).mono ?_
  rintro e w2 ⟨r2, rfl, hr2, hb2⟩
  replace hT := hT.later hb2
  have HR2 := hide hr2
  replace HR1 := hide (HR1.out.below hb2 (Nat.le_refl _))
  clear hr2 hb2
  go_wp2_with fail
  refine (add_any w2 _ _ 2 3 2 HR1.out HR2.out (by decide)).mono ?_
  rintro e w2' ⟨r3, rfl, hr3, hb2'⟩
  replace hT := hT.later hb2'
  have HR3 := hide hr3
  clear HR1 HR2 hr3 hb2'
  go_wp2_with fail
  refine (text_small w2' _ (2 + 3) 3 HR3.out (by decide) (by decide) (by decide)).mono ?_
  rintro e w3 ⟨rfl, hb3⟩
  replace hT := hT.later hb3
  clear HR3 hb3
  rw [show txt (2 + 3) = [53] by decide +kernel]
  obtain ⟨p0, p1, -, -⟩ := hT.fst
  obtain ⟨q0, q1, -, -⟩ := hT.snd
  obtain ⟨s0, s1, -, -⟩ := hT.res
  have hT3 := hide hT; clear hT
  by_cases c1 : (60 : Int) < (za.length : Int)
  · have d1 : decide (60 < (za.length : Int)) = true := decide_eq_true c1
    go_wp2
    go_ret
    exact ⟨rfl, hT3.out.below⟩
  have d1 : decide (60 < (za.length : Int)) = false := decide_eq_false c1
  by_cases c2 : (60 : Int) < (zb.length : Int)
  · have d2 : decide (60 < (zb.length : Int)) = true := decide_eq_true c2
    go_wp2
    go_ret
    exact ⟨rfl, hT3.out.below⟩
  have d2 : decide (60 < (zb.length : Int)) = false := decide_eq_false c2
  by_cases c3 : (60 : Int) < (zc.length : Int)
  · have d3 : decide (60 < (zc.length : Int)) = true := decide_eq_true c3
    go_wp2
    go_ret
    exact ⟨rfl, hT3.out.below⟩
  have d3 : decide (60 < (zc.length : Int)) = false := decide_eq_false c3
  go_wp2_with fail
  refine (fit_any _ w3.heap.size [⟨an, .slice ao za.length acap, za⟩, ⟨bn, .slice bo zb.length bcap, zb⟩, ⟨cn, .slice co zc.length ccap, zc⟩] (raws3 _ _ _ _ _ _ _ _ _ _ _ ((HA.out (by omega)).below hT3.out.below (Nat.le_refl _)) ((HB.out (by omega)).below hT3.out.below (Nat.le_refl _)) ((HC.out (by omega)).below hT3.out.below (Nat.le_refl _))) (by simp)).mono ?_
  rintro e w4 ⟨rfl, hb4⟩
  rw [HN.out]
  have hT4 := hide (hT3.out.later ((((Below.refl _ _).alloc (Nat.le_refl _) _).trans (hb4.mono (by simp)))))
  clear hT3 p0 p1 q0 q1 s0 s1 hb4 HA HB HC HN
  go_wp2
  go_ret
  exact ⟨rfl, hT4.out.below⟩

end Go.Proofs.YtkfgfodghnafgaaDoor
