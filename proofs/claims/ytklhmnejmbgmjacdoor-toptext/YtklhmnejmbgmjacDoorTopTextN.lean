/- TopText where there are too many limbs, or no numbers: nothing is said. -/
import Derived.Test.YtklhmnejmbgmjacDoorTopTextA
import Derived.Test.YtklhmnejmbgmjacDoorHold
import Derived.Test.YtklhmnejmbgmjacDoorTextS
import Derived.Test.YtklhmnejmbgmjacDoorRegions
namespace Go.Proofs.YtklhmnejmbgmjacDoor
open Go.RowKit Limbs

theorem VecC.below {w w' : World} {v : Value} {rs : List Raw} (h : VecC w v rs) (hb : Below w.heap.size w w') : VecC w' v rs := by
  obtain ⟨ao, cap, hv, h1, h1', h2⟩ := h
  refine ⟨ao, cap, hv, h1, h1', fun h0 => ?_⟩
  obtain ⟨b, off, e, hlt, hc⟩ := h2 h0
  refine ⟨b, off, e, Nat.lt_of_lt_of_le hlt hb.size, fun i r hi => ?_⟩
  obtain ⟨h3, h4, h5, h6, h7⟩ := hc i r hi
  exact ⟨(hb.cell (p := ⟨b, off + i * 2, none⟩) hlt).trans h3, (hb.cell (p := ⟨b, off + i * 2 + 1, none⟩) hlt).trans h4, h5, h6, fun hl => (h7 hl).below hb (Nat.le_refl _)⟩

set_option maxRecDepth 100000 in
set_option maxHeartbeats 4000000 in
theorem topText_not (w : World) (an bn : Bool) (ao bo : Option Addr) (acap bcap : Nat) (za zb : List Int) (v : Value) (rs : List Raw)
    (la : za.length ≤ 9223372036854775807) (lb : zb.length ≤ 9223372036854775807)
    (ha : za.length ≤ 1000000 → Lim w (.slice ao za.length acap) za) (hb : zb.length ≤ 1000000 → Lim w (.slice bo zb.length bcap) zb) (hv : VecC w v rs)
    (hnot : [Raw.mk an (.slice ao za.length acap) za, Raw.mk bn (.slice bo zb.length bcap) zb].all Raw.good = false ∨ lightV rs = false) :
    Calls Tryd.prog 3 #[.agg #[.bool an, .slice ao za.length acap], .agg #[.bool bn, .slice bo zb.length bcap], v] w fun e w' => e = .returned (.bool true) ∧ Below w.heap.size w w' := by
  have HA := hide ha; have HB := hide hb; have HV := hide hv
  have HNOT := hide hnot
  clear ha hb hv hnot
  go_enter Tryd.func3, Tryd.ntmps3
  go_wp2_with fail
  have hT := two w (.bool an) (.slice ao za.length acap) (.bool bn) (.slice bo zb.length bcap) 24 24
  generalize (w.alloc (.cells #[.bool an, .slice ao za.length acap] 24)).alloc (.cells #[.bool bn, .slice bo zb.length bcap] 24) = W at *
  refine (of_any W (-70) (by decide) (by decide)).mono ?_
  rintro e w1 ⟨r1, rfl, hr1, hb1⟩
  replace hT := hT.later hb1
  have HR1 := hide hr1; clear hr1 hb1
  go_wp2_with fail
  refine (text_small w1 _ (-70) 2 HR1.out (by decide) (by decide) (by decide)).mono ?_
  rintro e w2 ⟨rfl, hb2⟩
  rw [show txt (-70) = [45, 55, 48] by decide +kernel]
  replace hT := hT.later hb2
  clear HR1 hb2
  obtain ⟨p0, p1, -, -⟩ := hT.fst
  obtain ⟨q0, q1, -, -⟩ := hT.res
  have hT2 := hide hT; clear hT
  by_cases c1 : (60 : Int) < (za.length : Int)
  · have d1 : decide (60 < (za.length : Int)) = true := decide_eq_true c1
    go_wp2
    go_ret
    exact ⟨rfl, hT2.out.below⟩
  have d1 : decide (60 < (za.length : Int)) = false := decide_eq_false c1
  by_cases c2 : (60 : Int) < (zb.length : Int)
  · have d2 : decide (60 < (zb.length : Int)) = true := decide_eq_true c2
    go_wp2
    go_ret
    exact ⟨rfl, hT2.out.below⟩
  have d2 : decide (60 < (zb.length : Int)) = false := decide_eq_false c2
  go_wp2_with fail
  refine (fit_any _ w2.heap.size [⟨an, .slice ao za.length acap, za⟩, ⟨bn, .slice bo zb.length bcap, zb⟩] (raws2 _ _ _ _ _ _ _ _ ((HA.out (by omega)).below hT2.out.below (Nat.le_refl _)) ((HB.out (by omega)).below hT2.out.below (Nat.le_refl _))) (by simp)).mono ?_
  rintro e w3 ⟨rfl, hb3⟩
  have hT3 := hide (hT2.out.later ((((Below.refl _ _).alloc (Nat.le_refl _) _).trans (hb3.mono (by simp)))))
  clear hT2 p0 p1 q0 q1 hb3 HA HB
  cases hg : [Raw.mk an (.slice ao za.length acap) za, Raw.mk bn (.slice bo zb.length bcap) zb].all Raw.good
  · clear HNOT hg HV
    go_wp2
    go_ret
    exact ⟨rfl, hT3.out.below⟩
  · have HL : Hid (lightV rs = false) := by
      rcases HNOT.out with h | h
      · rw [hg] at h; exact absurd h (by simp)
      · exact h
    clear HNOT hg
    go_wp2_with fail
    refine (lightV_any w3 v rs (HV.out.below hT3.out.below) false HL.out.symm).mono ?_
    rintro e w4 ⟨rfl, rfl⟩
    clear HL HV
    go_wp2
    go_ret
    exact ⟨rfl, hT3.out.below⟩

end Go.Proofs.YtklhmnejmbgmjacDoor
