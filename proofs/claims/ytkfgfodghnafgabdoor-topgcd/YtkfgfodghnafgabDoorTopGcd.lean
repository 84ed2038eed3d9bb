/- TopGcd, walked. -/
import Derived.Test.YtkfgfodghnafgabDoorGcdC
import Derived.Test.YtkfgfodghnafgabDoorFit
import Derived.Test.YtkfgfodghnafgabDoorRaws
import Derived.Test.YtkfgfodghnafgabDoorHold
namespace Go.Proofs.YtkfgfodghnafgabDoor
open Go.RowKit Limbs

theorem two_div {w W W' : World} {a0 a1 b0 b1 : Value} (h : Two w W a0 a1 b0 b1) (hb : Below W.heap.size W W') : Two w W' a0 a1 b0 b1 := h.later hb

set_option maxRecDepth 100000 in
set_option maxHeartbeats 40000000 in
theorem topGcd_fit (w : World) (an bn : Bool) (ao bo : Option Addr) (acap bcap : Nat) (za zb : List Int)
    (ha : Lim w (.slice ao za.length acap) za) (hb : Lim w (.slice bo zb.length bcap) zb)
    (la : za.length ≤ 12) (lb : zb.length ≤ 12) (ga : isNum an za = true) (gb : isNum bn zb = true) :
    Calls Tryd.prog 3 #[.agg #[.bool an, .slice ao za.length acap], .agg #[.bool bn, .slice bo zb.length bcap]] w fun e w' => e = .returned (.bool true) ∧ Below w.heap.size w w' := by
  have HA := hide ha; have HB := hide hb
  have NA := hide (NumL.of_isNum ga ha la); have NB := hide (NumL.of_isNum gb hb lb)
  clear ha hb
  have HG : Hid ([⟨an, .slice ao za.length acap, za⟩, ⟨bn, .slice bo zb.length bcap, zb⟩].all Raw.good = true) := by
    show _ = _; simp [Raw.good, ga, gb, la, lb]
  clear ga gb
  go_enter Tryd.func3, Tryd.ntmps3
  go_wp2_with fail
  have hT := two w (.bool an) (.slice ao za.length acap) (.bool bn) (.slice bo zb.length bcap) 24 24
  generalize (w.alloc (.cells #[.bool an, .slice ao za.length acap] 24)).alloc (.cells #[.bool bn, .slice bo zb.length bcap] 24) = W at *
  refine (of_any W 6 (by decide) (by decide)).mono ?_
  rintro e w1 ⟨r1, rfl, hr1, hb1⟩
  replace hT := hT.later hb1
  have HR1 := hide hr1; clear hr1 hb1
  go_wp2_with fail
  refine (of_any w1 4 (by decide) (by decide)).mono ?_
  rintro e w2 ⟨r2, rfl, hr2, hb2⟩
  replace hT := hT.later hb2
  have HR2 := hide hr2
  replace HR1 := hide (HR1.out.below hb2 (Nat.le_refl _))
  clear hr2 hb2
  go_wp2_with fail
  refine (gcd_any w2 _ _ 6 4 (HR1.out.mono (by decide)) (HR2.out.mono (by decide))).mono ?_
  rintro e w3 ⟨vg, vx, vy, g, x, y, rfl, hg, hx, hy, hbz, hg0, hda, hdb, hb3⟩
  obtain rfl := gcd64 hbz hg0 hda hdb
  have HBZ := hide hbz
  replace hT := hT.later hb3
  obtain ⟨⟨gn, go, gl, gc⟩, rfl⟩ := hg.nm
  obtain ⟨⟨xn, xo, xl, xc⟩, rfl⟩ := hx.nm
  obtain ⟨⟨yn, yo, yl, yc⟩, rfl⟩ := hy.nm
  have hF := five_new hT ⟨gn, go, gl, gc⟩ ⟨xn, xo, xl, xc⟩ ⟨yn, yo, yl, yc⟩ 24 hg hx hy
  clear hg hx hy hbz hg0 hda hdb hb3 HR1 HR2 hT
  dsimp only at hF
  go_wp2_with fail
  generalize ((w3.alloc (.cells #[.bool gn, .slice go gl gc] 24)).alloc (.cells #[.bool xn, .slice xo xl xc] 24)).alloc (.cells #[.bool yn, .slice yo yl yc] 24) = W4 at *
  generalize w3.heap.size = C at *
  have h4 := hide hF; clear hF
  obtain ⟨p0, p1, -, -⟩ := h4.out.a; obtain ⟨q0, q1, -, -⟩ := h4.out.b; obtain ⟨s0, s1, -, -⟩ := h4.out.g.box; obtain ⟨t0, t1, -, -⟩ := h4.out.x.box; obtain ⟨z0, z1, -, -⟩ := h4.out.y.box
  (try dsimp only at s0 s1 t0 t1 z0 z1)
  have tok1 : True := trivial
  have tok2 : True := trivial
  have tok3 : True := trivial
  have tok4 : True := trivial
  have tok5 : True := trivial
  have tok6 : True := trivial
  have tok7 : True := trivial
  go_region_held3 (fun w' => w'.cell? ⟨C, 0, none⟩ = some (.bool gn) ∧ w'.cell? ⟨C, 1, none⟩ = some (.slice go gl gc) ∧ w'.cell? ⟨C + 1, 0, none⟩ = some (.bool xn) ∧ w'.cell? ⟨C + 1, 1, none⟩ = some (.slice xo xl xc) ∧ w'.cell? ⟨C + 1 + 1, 0, none⟩ = some (.bool yn) ∧ w'.cell? ⟨C + 1 + 1, 1, none⟩ = some (.slice yo yl yc)) (go_keep)
    (first
      | (go_at_call 6; have _t := tok1; refine (text_small _ _ 2 12 (by exact h4.out.g.num) (by decide) (by decide) (by decide)).mono ?_; rintro e w5 ⟨rfl, hb5⟩; rw [show txt 2 = [50] by decide +kernel]; have h5 := hide (h4.out.drew.later hb5); clear hb5 tok1; obtain ⟨p0, p1, -, -⟩ := h5.out.a; obtain ⟨q0, q1, -, -⟩ := h5.out.b; obtain ⟨s0, s1, -, -⟩ := h5.out.g.box; obtain ⟨t0, t1, -, -⟩ := h5.out.x.box; obtain ⟨z0, z1, -, -⟩ := h5.out.y.box; (try dsimp only at s0 s1 t0 t1 z0 z1))
      | (go_at_call 5; have _t := tok2; refine (of_any _ 6 (by decide) (by decide)).mono ?_; rintro e w6 ⟨r6, rfl, hr6, hb6⟩; have HR6 := hide hr6; clear hr6; have h6 := hide (h5.out.later hb6); clear hb6 tok2; obtain ⟨p0, p1, -, -⟩ := h6.out.a; obtain ⟨q0, q1, -, -⟩ := h6.out.b; obtain ⟨s0, s1, -, -⟩ := h6.out.g.box; obtain ⟨t0, t1, -, -⟩ := h6.out.x.box; obtain ⟨z0, z1, -, -⟩ := h6.out.y.box; (try dsimp only at s0 s1 t0 t1 z0 z1))
      | (go_at_call 8; have _t := tok3; refine (mul_any _ _ _ _ _ 12 2 h6.out.x.num HR6.out (by decide) (by decide)).mono ?_; rintro e w7 ⟨r7, rfl, hr7, hb7⟩; have HR7 := hide hr7; clear hr7; have h7 := hide (h6.out.later hb7); clear hb7 tok3; obtain ⟨p0, p1, -, -⟩ := h7.out.a; obtain ⟨q0, q1, -, -⟩ := h7.out.b; obtain ⟨s0, s1, -, -⟩ := h7.out.g.box; obtain ⟨t0, t1, -, -⟩ := h7.out.x.box; obtain ⟨z0, z1, -, -⟩ := h7.out.y.box; (try dsimp only at s0 s1 t0 t1 z0 z1))
      | (go_at_call 5; have _t := tok4; refine (of_any _ 4 (by decide) (by decide)).mono ?_; rintro e w8 ⟨r8, rfl, hr8, hb8⟩; have HR8 := hide hr8; clear hr8; have h8 := hide (h7.out.later hb8); replace HR7 := hide (HR7.out.below hb8 (Nat.le_refl _)); clear hb8 tok4; obtain ⟨p0, p1, -, -⟩ := h8.out.a; obtain ⟨q0, q1, -, -⟩ := h8.out.b; obtain ⟨s0, s1, -, -⟩ := h8.out.g.box; obtain ⟨t0, t1, -, -⟩ := h8.out.x.box; obtain ⟨z0, z1, -, -⟩ := h8.out.y.box; (try dsimp only at s0 s1 t0 t1 z0 z1))
      | (go_at_call 8; have _t := tok5; refine (mul_any _ _ _ _ _ 12 2 h8.out.y.num HR8.out (by decide) (by decide)).mono ?_; rintro e w9 ⟨r9, rfl, hr9, hb9⟩; have HR9 := hide hr9; clear hr9; have h9 := hide (h8.out.later hb9); replace HR7 := hide (HR7.out.below hb9 (Nat.le_refl _)); clear hb9 tok5; obtain ⟨p0, p1, -, -⟩ := h9.out.a; obtain ⟨q0, q1, -, -⟩ := h9.out.b; obtain ⟨s0, s1, -, -⟩ := h9.out.g.box; obtain ⟨t0, t1, -, -⟩ := h9.out.x.box; obtain ⟨z0, z1, -, -⟩ := h9.out.y.box; (try dsimp only at s0 s1 t0 t1 z0 z1))
      | (go_at_call 7; have _t := tok6; refine (add_any _ _ _ _ _ 14 HR7.out HR9.out (by decide)).mono ?_; rintro e w10 ⟨r10, rfl, hr10, hb10⟩; rw [← HBZ.out] at hr10; have HR10 := hide hr10; clear hr10; have h10 := hide (h9.out.later hb10); clear hb10 tok6; obtain ⟨p0, p1, -, -⟩ := h10.out.a; obtain ⟨q0, q1, -, -⟩ := h10.out.b; obtain ⟨s0, s1, -, -⟩ := h10.out.g.box; obtain ⟨t0, t1, -, -⟩ := h10.out.x.box; obtain ⟨z0, z1, -, -⟩ := h10.out.y.box; (try dsimp only at s0 s1 t0 t1 z0 z1))
      | (go_at_call 6; have _t := tok7; refine (text_small _ _ 2 15 HR10.out (by decide) (by decide) (by decide)).mono ?_; rintro e w11 ⟨rfl, hb11⟩; rw [show txt 2 = [50] by decide +kernel]; have h11 := hide (h10.out.later hb11); clear hb11 tok7; obtain ⟨p0, p1, -, -⟩ := h11.out.a; obtain ⟨q0, q1, -, -⟩ := h11.out.b; obtain ⟨s0, s1, -, -⟩ := h11.out.g.box; obtain ⟨t0, t1, -, -⟩ := h11.out.x.box; obtain ⟨z0, z1, -, -⟩ := h11.out.y.box; (try dsimp only at s0 s1 t0 t1 z0 z1)))
  clear h4 h5 h6 h7 h8 h9 h10 HR6 HR7 HR8 HR9 HR10 HBZ
  have d1 : decide (60 < (za.length : Int)) = false := by simp; omega
  have d2 : decide (60 < (zb.length : Int)) = false := by simp; omega
  go_wp2_with fail
  refine (fit_any _ w11.heap.size [⟨an, .slice ao za.length acap, za⟩, ⟨bn, .slice bo zb.length bcap, zb⟩] (raws2 _ _ _ _ _ _ _ _ (HA.out.below h11.out.below (Nat.le_refl _)) (HB.out.below h11.out.below (Nat.le_refl _))) (by simp)).mono ?_
  rintro e w12 ⟨rfl, hb12⟩
  rw [HG.out]
  have h12 := hide (h11.out.later ((((Below.refl _ _).alloc (Nat.le_refl _) _).trans (hb12.mono (by simp)))))
  clear h11 hb12 HA HB HG d1 d2 la lb
  clear p0 p1 q0 q1 s0 s1 t0 t1 z0 z1
  obtain ⟨p0, p1, -, -⟩ := h12.out.a; obtain ⟨q0, q1, -, -⟩ := h12.out.b; obtain ⟨s0, s1, -, -⟩ := h12.out.g.box; obtain ⟨t0, t1, -, -⟩ := h12.out.x.box; obtain ⟨z0, z1, -, -⟩ := h12.out.y.box
  generalize sg an (lv za) = a at *
  generalize sg bn (lv zb) = b at *
  go_wp2_with fail
  refine (gcd_any w12 _ _ a b (NA.out.below h12.out.below (Nat.le_refl _)) (NB.out.below h12.out.below (Nat.le_refl _))).mono ?_
  rintro e w13 ⟨vg, vx, vy, g', x', y', rfl, hg, hx, hy, hbz, hg0, hda, hdb, hb13⟩
  have h13 := h12.out.later hb13
  obtain ⟨⟨kn, ko, kl, kc⟩, rfl⟩ := hg.nm
  obtain ⟨⟨ln, lo, ll, lc⟩, rfl⟩ := hx.nm
  obtain ⟨⟨mn, mo, ml, mc⟩, rfl⟩ := hy.nm
  dsimp only at hg hx hy
  obtain rfl := hg.plain hg0
  clear p0 p1 q0 q1 s0 s1 t0 t1 z0 z1
  obtain ⟨s0, s1, s2, s3⟩ := h13.g.box
  obtain ⟨t0, t1, t2, t3⟩ := h13.x.box
  obtain ⟨z0, z1, z2, z3⟩ := h13.y.box
  dsimp only at s0 s1 t0 t1 z0 z1
  have hF := h13.write (r := ⟨false, ko, kl, kc⟩) (r' := ⟨ln, lo, ll, lc⟩) (r'' := ⟨mn, mo, ml, mc⟩) hg hx hy
  dsimp only at hF
  have h14 := hide hF
  have E1 := hide (show (cmpI (x' * a + y' * b) g' == 0) = true by rw [cmpI_eq hbz.symm]; rfl)
  have HG0 := hide hg0
  have HDA := hide hda
  have HDB := hide hdb
  clear hF h13 hg hx hy hbz hg0 hda hdb hb13 h12
  have n1 : ¬ (C + 1 = C) := by omega
  have n2 : ¬ (C + 1 + 1 = C) := by omega
  have n3 : ¬ (C + 1 + 1 = C + 1) := by omega
  have n4 : ¬ (C = C + 1) := by omega
  have n5 : ¬ (C = C + 1 + 1) := by omega
  have n6 : ¬ (C + 1 = C + 1 + 1) := by omega
  go_wp2_with fail
  generalize (((((w13.setCell ⟨C, 0, none⟩ (.bool false)).setCell ⟨C, 1, none⟩ (.slice ko kl kc)).setCell ⟨C + 1, 0, none⟩ (.bool ln)).setCell ⟨C + 1, 1, none⟩ (.slice lo ll lc)).setCell ⟨C + 1 + 1, 0, none⟩ (.bool mn)).setCell ⟨C + 1 + 1, 1, none⟩ (.slice mo ml mc) = w14 at *
  clear s0 s1 s2 s3 t0 t1 t2 t3 z0 z1 z2 z3 n1 n2 n3 n4 n5 n6
  obtain ⟨p0, p1, -, -⟩ := h14.out.a; obtain ⟨q0, q1, -, -⟩ := h14.out.b; obtain ⟨s0, s1, -, -⟩ := h14.out.g.box; obtain ⟨t0, t1, -, -⟩ := h14.out.x.box; obtain ⟨z0, z1, -, -⟩ := h14.out.y.box
  dsimp only at s0 s1 t0 t1 z0 z1
  have tok1 : True := trivial
  have tok2 : True := trivial
  have tok3 : True := trivial
  have tok4 : True := trivial
  go_region_held3 (fun w' => w'.cell? ⟨w.heap.size, 0, none⟩ = some (.bool an) ∧ w'.cell? ⟨w.heap.size, 1, none⟩ = some (.slice ao za.length acap) ∧ w'.cell? ⟨w.heap.size + 1, 0, none⟩ = some (.bool bn) ∧ w'.cell? ⟨w.heap.size + 1, 1, none⟩ = some (.slice bo zb.length bcap) ∧ w'.cell? ⟨C, 0, none⟩ = some (.bool false) ∧ w'.cell? ⟨C, 1, none⟩ = some (.slice ko kl kc) ∧ w'.cell? ⟨C + 1, 0, none⟩ = some (.bool ln) ∧ w'.cell? ⟨C + 1, 1, none⟩ = some (.slice lo ll lc) ∧ w'.cell? ⟨C + 1 + 1, 0, none⟩ = some (.bool mn) ∧ w'.cell? ⟨C + 1 + 1, 1, none⟩ = some (.slice mo ml mc)) (go_keep)
    (first
      | (go_at_call 8; have _t := tok1; refine (mul_any _ _ _ x' a 12 12 (by exact h14.out.x.num) (NA.out.below h14.out.drew.below (Nat.le_refl _)) (by decide) (by decide)).mono ?_; rintro e w15 ⟨r15, rfl, hr15, hb15⟩; have HR15 := hide hr15; clear hr15; have h15 := hide (h14.out.drew.later hb15); clear hb15 tok1; obtain ⟨p0, p1, -, -⟩ := h15.out.a; obtain ⟨q0, q1, -, -⟩ := h15.out.b; obtain ⟨s0, s1, -, -⟩ := h15.out.g.box; obtain ⟨t0, t1, -, -⟩ := h15.out.x.box; obtain ⟨z0, z1, -, -⟩ := h15.out.y.box; (try dsimp only at s0 s1 t0 t1 z0 z1))
      | (go_at_call 8; have _t := tok2; refine (mul_any _ _ _ y' b 12 12 (by exact h15.out.y.num) (NB.out.below h15.out.below (Nat.le_refl _)) (by decide) (by decide)).mono ?_; rintro e w16 ⟨r16, rfl, hr16, hb16⟩; have HR16 := hide hr16; clear hr16; have h16 := hide (h15.out.later hb16); replace HR15 := hide (HR15.out.below hb16 (Nat.le_refl _)); clear hb16 tok2; obtain ⟨p0, p1, -, -⟩ := h16.out.a; obtain ⟨q0, q1, -, -⟩ := h16.out.b; obtain ⟨s0, s1, -, -⟩ := h16.out.g.box; obtain ⟨t0, t1, -, -⟩ := h16.out.x.box; obtain ⟨z0, z1, -, -⟩ := h16.out.y.box; (try dsimp only at s0 s1 t0 t1 z0 z1))
      | (go_at_call 7; have _t := tok3; refine (add_any _ _ _ _ _ 24 HR15.out HR16.out (by decide)).mono ?_; rintro e w17 ⟨r17, rfl, hr17, hb17⟩; have HR17 := hide hr17; clear hr17; have h17 := hide (h16.out.later hb17); clear hb17 tok3; obtain ⟨p0, p1, -, -⟩ := h17.out.a; obtain ⟨q0, q1, -, -⟩ := h17.out.b; obtain ⟨s0, s1, -, -⟩ := h17.out.g.box; obtain ⟨t0, t1, -, -⟩ := h17.out.x.box; obtain ⟨z0, z1, -, -⟩ := h17.out.y.box; (try dsimp only at s0 s1 t0 t1 z0 z1))
      | (go_at_call 10; have _t := tok4; refine (is_any _ _ _ _ _ 25 12 HR17.out (by exact h17.out.g.num)).mono ?_; rintro e w18 ⟨rfl, hb18⟩; rw [E1.out]; have h18 := hide (h17.out.later hb18); clear hb18 tok4; obtain ⟨p0, p1, -, -⟩ := h18.out.a; obtain ⟨q0, q1, -, -⟩ := h18.out.b; obtain ⟨s0, s1, -, -⟩ := h18.out.g.box; obtain ⟨t0, t1, -, -⟩ := h18.out.x.box; obtain ⟨z0, z1, -, -⟩ := h18.out.y.box; (try dsimp only at s0 s1 t0 t1 z0 z1)))
  clear h14 h15 h16 h17 HR15 HR16 HR17 E1
  by_cases hz : g' = 0
  · have E3 := hide (decide_eq_true hz)
    have EA := hide (decide_eq_true (show a = 0 by obtain ⟨p, hp⟩ := HDA.out; rw [hz, Int.mul_zero] at hp; exact hp))
    have EB := hide (decide_eq_true (show b = 0 by obtain ⟨p, hp⟩ := HDB.out; rw [hz, Int.mul_zero] at hp; exact hp))
    clear HG0 HDA HDB hz
    go_wp2_with fail
    refine (zero_any _ _ g' 12 (by exact h18.out.g.num)).mono ?_
    rintro e w19 ⟨rfl, hb19⟩
    rw [E3.out]
    have h19 := hide (h18.out.later hb19)
    clear hb19 h18
    clear p0 p1 q0 q1 s0 s1 t0 t1 z0 z1
    obtain ⟨p0, p1, -, -⟩ := h19.out.a; obtain ⟨q0, q1, -, -⟩ := h19.out.b; obtain ⟨s0, s1, -, -⟩ := h19.out.g.box; obtain ⟨t0, t1, -, -⟩ := h19.out.x.box; obtain ⟨z0, z1, -, -⟩ := h19.out.y.box
    go_wp2_with fail
    refine (zero_any _ _ a 12 (NA.out.below h19.out.below (Nat.le_refl _))).mono ?_
    rintro e w20 ⟨rfl, hb20⟩
    rw [EA.out]
    have h20 := hide (h19.out.later hb20)
    clear hb20 h19
    clear p0 p1 q0 q1 s0 s1 t0 t1 z0 z1
    obtain ⟨p0, p1, -, -⟩ := h20.out.a; obtain ⟨q0, q1, -, -⟩ := h20.out.b; obtain ⟨s0, s1, -, -⟩ := h20.out.g.box; obtain ⟨t0, t1, -, -⟩ := h20.out.x.box; obtain ⟨z0, z1, -, -⟩ := h20.out.y.box
    go_wp2_with fail
    refine (zero_any _ _ b 12 (NB.out.below h20.out.below (Nat.le_refl _))).mono ?_
    rintro e w21 ⟨rfl, hb21⟩
    rw [EB.out]
    have h21 := hide (h20.out.later hb21)
    clear hb21 h20
    go_wp2
    go_ret
    exact ⟨rfl, h21.out.below⟩
  · have E3 := hide (decide_eq_false hz)
    go_wp2_with fail
    refine (zero_any _ _ g' 12 (by exact h18.out.g.num)).mono ?_
    rintro e w19 ⟨rfl, hb19⟩
    rw [E3.out]
    have h19 := hide (h18.out.later hb19)
    clear hb19 h18
    clear p0 p1 q0 q1 s0 s1 t0 t1 z0 z1
    obtain ⟨p0, p1, -, -⟩ := h19.out.a; obtain ⟨q0, q1, -, -⟩ := h19.out.b; obtain ⟨s0, s1, -, -⟩ := h19.out.g.box; obtain ⟨t0, t1, -, -⟩ := h19.out.x.box; obtain ⟨z0, z1, -, -⟩ := h19.out.y.box
    dsimp only at s0 s1
    go_wp2_with fail
    refine (div_any w19 _ _ a g' 12 12 (NA.out.below h19.out.below (Nat.le_refl _)) (by exact h19.out.g.num) hz (by decide)).mono ?_
    rintro e w20 ⟨vq, vr, q, r, rfl, hq, hr, hqr, hle, hb20⟩
    obtain ⟨p, hp⟩ := HDA.out
    obtain rfl := rem_zero hqr hp (hle.1 (by have := HG0.out; omega)).1 (hle.1 (by have := HG0.out; omega)).2
    obtain ⟨⟨un, uo, ul, uc⟩, rfl⟩ := hq.nm
    obtain ⟨⟨vn, vo, vl, vc⟩, rfl⟩ := hr.nm
    have hT := two w20 (.bool un) (.slice uo ul uc) (.bool vn) (.slice vo vl vc) 24 24
    have h20 := hide (h19.out.later hb20)
    have h21 := hide (h20.out.later hT.below)
    have HR := hide (hr.below hT.below (Nat.le_refl _))
    clear hq hr hqr hle hb20 h19 hp p
    clear p0 p1 q0 q1 s0 s1 t0 t1 z0 z1
    dsimp only at HR
    obtain ⟨p0, p1, -, -⟩ := h20.out.a; obtain ⟨q0, q1, -, -⟩ := h20.out.b; obtain ⟨s0, s1, -, -⟩ := h20.out.g.box; obtain ⟨t0, t1, -, -⟩ := h20.out.x.box; obtain ⟨z0, z1, -, -⟩ := h20.out.y.box
    dsimp only at s0 s1
    have b1 := h20.out.low
    have b2 := h20.out.y.lt
    have b3 : ¬ (w.heap.size + 1 = w20.heap.size) := by omega
    have b4 : ¬ (w.heap.size + 1 = w20.heap.size + 1) := by omega
    have b5 : ¬ (C = w20.heap.size) := by omega
    have b6 : ¬ (C = w20.heap.size + 1) := by omega
    obtain ⟨q0', q1', -, -⟩ := h21.out.b
    obtain ⟨s0', s1', -, -⟩ := h21.out.g.box
    dsimp only at s0' s1'
    clear h20
    go_wp2_with fail
    clear p0 p1 q0 q1 s0 s1 t0 t1 z0 z1
    clear b1 b2 b3 b4 b5 b6 q0' q1' s0' s1'
    generalize (w20.alloc (.cells #[.bool un, .slice uo ul uc] 24)).alloc (.cells #[.bool vn, .slice vo vl vc] 24) = w21 at *
    refine (div_any w21 _ _ b g' 12 12 (NB.out.below h21.out.below (Nat.le_refl _)) (by exact h21.out.g.num) hz (by decide)).mono ?_
    rintro e w22 ⟨vq', vr', q', r', rfl, hq, hr, hqr, hle, hb22⟩
    obtain ⟨p, hp⟩ := HDB.out
    obtain rfl := rem_zero hqr hp (hle.1 (by have := HG0.out; omega)).1 (hle.1 (by have := HG0.out; omega)).2
    obtain ⟨⟨un', uo', ul', uc'⟩, rfl⟩ := hq.nm
    obtain ⟨⟨vn', vo', vl', vc'⟩, rfl⟩ := hr.nm
    have hT' := two w22 (.bool un') (.slice uo' ul' uc') (.bool vn') (.slice vo' vl' vc') 24 24
    have h23 := hide ((h21.out.later hb22).later hT'.below)
    obtain ⟨p0, p1, -, -⟩ := (hT.later hb22).res
    obtain ⟨q0, q1, -, -⟩ := ((hT.later hb22).later hT'.below).res
    have b1 := (hT.later hb22).size
    have b3 : ¬ (w20.heap.size + 1 = w22.heap.size) := by omega
    have b4 : ¬ (w20.heap.size + 1 = w22.heap.size + 1) := by omega
    replace hT' := hide hT'
    have HR' := hide (hr.below hT'.out.below (Nat.le_refl _))
    replace HR := hide ((HR.out.below hb22 (Nat.le_refl _)).below hT'.out.below (Nat.le_refl _))
    clear hq hr hqr hle hb22 h21 hp p hT
    dsimp only at HR'
    go_wp2_with fail
    clear p0 p1 q0 q1 b1 b3 b4
    generalize (w22.alloc (.cells #[.bool un', .slice uo' ul' uc'] 24)).alloc (.cells #[.bool vn', .slice vo' vl' vc'] 24) = w23 at *
    refine (zero_any _ _ 0 12 HR.out).mono ?_
    rintro e w24 ⟨rfl, hb24⟩
    rw [decide_eq_true rfl]
    have h24 := hide (h23.out.later hb24)
    replace hT' := hide (hT'.out.later hb24)
    replace HR' := hide (HR'.out.below hb24 (Nat.le_refl _))
    clear hb24 HR
    obtain ⟨p0, p1, -, -⟩ := hT'.out.res
    go_wp2_with fail
    refine (zero_any _ _ 0 12 HR'.out).mono ?_
    rintro e w25 ⟨rfl, hb25⟩
    rw [decide_eq_true rfl]
    have h25 := hide (h24.out.later hb25)
    clear p0 p1 hb25 hT' HR'
    go_wp2
    go_ret
    exact ⟨rfl, h25.out.below⟩

end Go.Proofs.YtkfgfodghnafgabDoor
