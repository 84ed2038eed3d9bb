/- TopGcd where there are too many limbs, or no numbers: nothing is said. -/
import Derived.Test.YtkfgfodghnafgabDoorGcdC
import Derived.Test.YtkfgfodghnafgabDoorFit
import Derived.Test.YtkfgfodghnafgabDoorRaws
import Derived.Test.YtkfgfodghnafgabDoorHold
namespace Go.Proofs.YtkfgfodghnafgabDoor
open Go.RowKit Limbs

set_option maxRecDepth 100000 in
set_option maxHeartbeats 40000000 in
theorem topGcd_not (w : World) (an bn : Bool) (ao bo : Option Addr) (acap bcap : Nat) (za zb : List Int)
    (la : za.length ≤ 9223372036854775807) (lb : zb.length ≤ 9223372036854775807)
    (ha : za.length ≤ 1000000 → Lim w (.slice ao za.length acap) za) (hb : zb.length ≤ 1000000 → Lim w (.slice bo zb.length bcap) zb)
    (hnot : [Raw.mk an (.slice ao za.length acap) za, Raw.mk bn (.slice bo zb.length bcap) zb].all Raw.good = false) :
    Calls Tryd.prog 3 #[.agg #[.bool an, .slice ao za.length acap], .agg #[.bool bn, .slice bo zb.length bcap]] w fun e w' => e = .returned (.bool true) ∧ Below w.heap.size w w' := by
  have HA := hide ha; have HB := hide hb
  have HNOT := hide hnot
  clear ha hb hnot
  go_enter Tryd.func3, Tryd.ntmps3
  go_wp2_with fail
  have hT := two w (.bool an) (.slice ao za.length acap) (.bool bn) (.slice bo zb.length bcap) 24 24
  generalize (w.alloc (.cells #[.bool an, .slice ao za.length acap] 24)).alloc (.cells #[.bool bn, .slice bo zb.length bcap] 24) = W at *
  refine (of_any W 6 (by decide) (by decide)).mono ?_
  rintro e w1 ⟨r1, rfl, hr1, hb1⟩
  replace hT := hT.later hb1
  have HR1 := hide hr1; clear hr1 hb1
  go_wp2_with fail
  refine (of_any w1 4 (by decide) (by decide)).mono ?_
  rintro e w2 ⟨r2, rfl, hr2, hb2⟩
  replace hT := hT.later hb2
  have HR2 := hide hr2
  replace HR1 := hide (HR1.out.below hb2 (Nat.le_refl _))
  clear hr2 hb2
  go_wp2_with fail
  refine (gcd_any w2 _ _ 6 4 (HR1.out.mono (by decide)) (HR2.out.mono (by decide))).mono ?_
  rintro e w3 ⟨vg, vx, vy, g, x, y, rfl, hg, hx, hy, hbz, hg0, hda, hdb, hb3⟩
  obtain rfl := gcd64 hbz hg0 hda hdb
  have HBZ := hide hbz
  replace hT := hT.later hb3
  obtain ⟨⟨gn, go, gl, gc⟩, rfl⟩ := hg.nm
  obtain ⟨⟨xn, xo, xl, xc⟩, rfl⟩ := hx.nm
  obtain ⟨⟨yn, yo, yl, yc⟩, rfl⟩ := hy.nm
  have hF := five_new hT ⟨gn, go, gl, gc⟩ ⟨xn, xo, xl, xc⟩ ⟨yn, yo, yl, yc⟩ 24 hg hx hy
  clear hg hx hy hbz hg0 hda hdb hb3 HR1 HR2 hT
  dsimp only at hF
  go_wp2_with fail
  generalize ((w3.alloc (.cells #[.bool gn, .slice go gl gc] 24)).alloc (.cells #[.bool xn, .slice xo xl xc] 24)).alloc (.cells #[.bool yn, .slice yo yl yc] 24) = W4 at *
  generalize w3.heap.size = C at *
  have h4 := hide hF; clear hF
  obtain ⟨p0, p1, -, -⟩ := h4.out.a; obtain ⟨q0, q1, -, -⟩ := h4.out.b; obtain ⟨s0, s1, -, -⟩ := h4.out.g.box; obtain ⟨t0, t1, -, -⟩ := h4.out.x.box; obtain ⟨z0, z1, -, -⟩ := h4.out.y.box
  (try dsimp only at s0 s1 t0 t1 z0 z1)
  have tok1 : True := trivial
  have tok2 : True := trivial
  have tok3 : True := trivial
  have tok4 : True := trivial
  have tok5 : True := trivial
  have tok6 : True := trivial
  have tok7 : True := trivial
  go_region_held3 (fun w' => w'.cell? ⟨C, 0, none⟩ = some (.bool gn) ∧ w'.cell? ⟨C, 1, none⟩ = some (.slice go gl gc) ∧ w'.cell? ⟨C + 1, 0, none⟩ = some (.bool xn) ∧ w'.cell? ⟨C + 1, 1, none⟩ = some (.slice xo xl xc) ∧ w'.cell? ⟨C + 1 + 1, 0, none⟩ = some (.bool yn) ∧ w'.cell? ⟨C + 1 + 1, 1, none⟩ = some (.slice yo yl yc)) (go_keep)
    (first
      | (go_at_call 6; have _t := tok1; refine (text_small _ _ 2 12 (by exact h4.out.g.num) (by decide) (by decide) (by decide)).mono ?_; rintro e w5 ⟨rfl, hb5⟩; rw [show txt 2 = [50] by decide +kernel]; have h5 := hide (h4.out.drew.later hb5); clear hb5 tok1; obtain ⟨p0, p1, -, -⟩ := h5.out.a; obtain ⟨q0, q1, -, -⟩ := h5.out.b; obtain ⟨s0, s1, -, -⟩ := h5.out.g.box; obtain ⟨t0, t1, -, -⟩ := h5.out.x.box; obtain ⟨z0, z1, -, -⟩ := h5.out.y.box; (try dsimp only at s0 s1 t0 t1 z0 z1))
      | (go_at_call 5; have _t := tok2; refine (of_any _ 6 (by decide) (by decide)).mono ?_; rintro e w6 ⟨r6, rfl, hr6, hb6⟩; have HR6 := hide hr6; clear hr6; have h6 := hide (h5.out.later hb6); clear hb6 tok2; obtain ⟨p0, p1, -, -⟩ := h6.out.a; obtain ⟨q0, q1, -, -⟩ := h6.out.b; obtain ⟨s0, s1, -, -⟩ := h6.out.g.box; obtain ⟨t0, t1, -, -⟩ := h6.out.x.box; obtain ⟨z0, z1, -, -⟩ := h6.out.y.box; (try dsimp only at s0 s1 t0 t1 z0 z1))
      | (go_at_call 8; have _t := tok3; refine (mul_any _ _ _ _ _ 12 2 h6.out.x.num HR6.out (by decide) (by decide)).mono ?_; rintro e w7 ⟨r7, rfl, hr7, hb7⟩; have HR7 := hide hr7; clear hr7; have h7 := hide (h6.out.later hb7); clear hb7 tok3; obtain ⟨p0, p1, -, -⟩ := h7.out.a; obtain ⟨q0, q1, -, -⟩ := h7.out.b; obtain ⟨s0, s1, -, -⟩ := h7.out.g.box; obtain ⟨t0, t1, -, -⟩ := h7.out.x.box; obtain ⟨z0, z1, -, -⟩ := h7.out.y.box; (try dsimp only at s0 s1 t0 t1 z0 z1))
      | (go_at_call 5; have _t := tok4; refine (of_any _ 4 (by decide) (by decide)).mono ?_; rintro e w8 ⟨r8, rfl, hr8, hb8⟩; have HR8 := hide hr8; clear hr8; have h8 := hide (h7.out.later hb8); replace HR7 := hide (HR7.out.below hb8 (Nat.le_refl _)); clear hb8 tok4; obtain ⟨p0, p1, -, -⟩ := h8.out.a; obtain ⟨q0, q1, -, -⟩ := h8.out.b; obtain ⟨s0, s1, -, -⟩ := h8.out.g.box; obtain ⟨t0, t1, -, -⟩ := h8.out.x.box; obtain ⟨z0, z1, -, -⟩ := h8.out.y.box; (try dsimp only at s0 s1 t0 t1 z0 z1))
      | (go_at_call 8; have _t := tok5; refine (mul_any _ _ _ _ _ 12 2 h8.out.y.num HR8.out (by decide) (by decide)).mono ?_; rintro e w9 ⟨r9, rfl, hr9, hb9⟩; have HR9 := hide hr9; clear hr9; have h9 := hide (h8.out.later hb9); replace HR7 := hide (HR7.out.below hb9 (Nat.le_refl _)); clear hb9 tok5; obtain ⟨p0, p1, -, -⟩ := h9.out.a; obtain ⟨q0, q1, -, -⟩ := h9.out.b; obtain ⟨s0, s1, -, -⟩ := h9.out.g.box; obtain ⟨t0, t1, -, -⟩ := h9.out.x.box; obtain ⟨z0, z1, -, -⟩ := h9.out.y.box; (try dsimp only at s0 s1 t0 t1 z0 z1))
      | (go_at_call 7; have _t := tok6; refine (add_any _ _ _ _ _ 14 HR7.out HR9.out (by decide)).mono ?_; rintro e w10 ⟨r10, rfl, hr10, hb10⟩; rw [← HBZ.out] at hr10; have HR10 := hide hr10; clear hr10; have h10 := hide (h9.out.later hb10); clear hb10 tok6; obtain ⟨p0, p1, -, -⟩ := h10.out.a; obtain ⟨q0, q1, -, -⟩ := h10.out.b; obtain ⟨s0, s1, -, -⟩ := h10.out.g.box; obtain ⟨t0, t1, -, -⟩ := h10.out.x.box; obtain ⟨z0, z1, -, -⟩ := h10.out.y.box; (try dsimp only at s0 s1 t0 t1 z0 z1))
      | (go_at_call 6; have _t := tok7; refine (text_small _ _ 2 15 HR10.out (by decide) (by decide) (by decide)).mono ?_; rintro e w11 ⟨rfl, hb11⟩; rw [show txt 2 = [50] by decide +kernel]; have h11 := hide (h10.out.later hb11); clear hb11 tok7; obtain ⟨p0, p1, -, -⟩ := h11.out.a; obtain ⟨q0, q1, -, -⟩ := h11.out.b; obtain ⟨s0, s1, -, -⟩ := h11.out.g.box; obtain ⟨t0, t1, -, -⟩ := h11.out.x.box; obtain ⟨z0, z1, -, -⟩ := h11.out.y.box; (try dsimp only at s0 s1 t0 t1 z0 z1)))
  clear h4 h5 h6 h7 h8 h9 h10 HR6 HR7 HR8 HR9 HR10 HBZ
  by_cases c1 : (60 : Int) < (za.length : Int)
  · have d1 : decide (60 < (za.length : Int)) = true := decide_eq_true c1
    go_wp2
    go_ret
    exact ⟨rfl, h11.out.below⟩
  have d1 : decide (60 < (za.length : Int)) = false := decide_eq_false c1
  by_cases c2 : (60 : Int) < (zb.length : Int)
  · have d2 : decide (60 < (zb.length : Int)) = true := decide_eq_true c2
    go_wp2
    go_ret
    exact ⟨rfl, h11.out.below⟩
  have d2 : decide (60 < (zb.length : Int)) = false := decide_eq_false c2
  go_wp2_with fail
  refine (fit_any _ w11.heap.size [⟨an, .slice ao za.length acap, za⟩, ⟨bn, .slice bo zb.length bcap, zb⟩] (raws2 _ _ _ _ _ _ _ _ ((HA.out (by omega)).below h11.out.below (Nat.le_refl _)) ((HB.out (by omega)).below h11.out.below (Nat.le_refl _))) (by simp)).mono ?_
  rintro e w12 ⟨rfl, hb12⟩
  rw [HNOT.out]
  have h12 := hide (h11.out.later ((((Below.refl _ _).alloc (Nat.le_refl _) _).trans (hb12.mono (by simp)))))
  clear h11 p0 p1 q0 q1 s0 s1 t0 t1 z0 z1 hb12 HA HB HNOT
  go_wp2
  go_ret
  exact ⟨rfl, h12.out.below⟩

end Go.Proofs.YtkfgfodghnafgabDoor
