/- TopSecond, from the first Quotient on: the same invariants. -/
import Derived.Test.YtdedolkgcdlmeaaGreatDoorSecM
import Derived.Test.YtdedolkgcdlmeaaGreatDoorSetL
import Derived.Test.YtdedolkgcdlmeaaGreatDoorMeetW
import Derived.Test.YtdedolkgcdlmeaaGreatDoorIdxR
import Derived.Test.YtdedolkgcdlmeaaGreatDoorTl
import Derived.Deep.Cut
import Derived.Deep.CutRange
namespace Go.Proofs.YtdedolkgcdlmeaaGreatDoor
open Go.RowKit Limbs Digs

theorem is_same (x : Int) : (cmpI x x == 0) = true := by
  unfold cmpI
  rw [if_neg (by omega), if_neg (by omega)]
  rfl

theorem roomSec : ∀ n, n < 5 → 6 + n * (n * 6 + 2 + 2) ≤ 90000 ∧ (n + n) * 6 + 2 + n * (6 + 2) ≤ 90000 := by decide

theorem roomSz : ∀ n, n < 5 → ∀ m, m < 5 → RoomS m ((n + n) * 6 + 2 + 1) := by decide

set_option linter.unusedSimpArgs false in
set_option maxRecDepth 100000 in
set_option maxHeartbeats 6400000 in
theorem topSecond_B (w W : World) (B6 B7 B8 B10 n : Nat) (o1 o2 o3 o4 : Option Addr) (k1 k2 k3 k4 : Nat) (hs ks ss mm : List (List Int)) (ph pk ps pm : Nat → Nat) (hbe : Below w.heap.size w W) (h1 : 1 ≤ n) (h4 : n ≤ 4) (hx6 : BoxL W B6 (.int .i64 (n : Int)) (.slice o1 hs.length k1)) (hl6 : LatN W (.agg #[.int .i64 (n : Int), .slice o1 hs.length k1]) n hs 6) (hx7 : BoxL W B7 (.int .i64 (n : Int)) (.slice o2 ks.length k2)) (hl7 : LatN W (.agg #[.int .i64 (n : Int), .slice o2 ks.length k2]) n ks 6) (hx8 : BoxL W B8 (.int .i64 (n : Int)) (.slice o3 ss.length k3)) (hl8 : LatN W (.agg #[.int .i64 (n : Int), .slice o3 ss.length k3]) n ss (n * 6 + 2)) (hx10 : BoxL W B10 (.int .i64 (n : Int)) (.slice o4 mm.length k4)) (hl10 : LatN W (.agg #[.int .i64 (n : Int), .slice o4 mm.length k4]) n mm ((n + n) * 6 + 2)) (hF : FormL n hs ph) (hG : FormL n ks pk) (hE : FormL n ss ps) (hH : FormL n mm pm) (hS : Alikes n (InL ss) (InL (hs ++ ks))) (hB : Both n mm hs ks) (sl0 sl1 sl2 sl3 sl4 sl5 sl9 sl11 sl12 sl13 sl14 sl15 sl16 sl17 sl18 sl19 sl20 sl21 sl22 sl23 sl24 sl25 sl26 sl27 sl28 sl29 sl30 sl31 sl32 sl33 sl34 sl35 sl36 sl37 sl38 sl39 sl40 sl41 sl42 sl43 sl44 sl45 sl46 sl47 sl48 sl49 sl50 sl51 sl52 sl53 sl54 sl55 sl56 sl57 sl58 sl59 sl60 sl61 sl62 sl63 sl64 sl65 sl66 sl67 sl68 sl69 sl70 sl71 sl72 sl73 sl74 sl75 sl76 sl77 sl78 sl79 sl80 sl81 sl82 sl83 sl84 sl85 sl86 sl87 sl88 sl89 sl90 sl91 sl92 sl93 sl94 sl95 sl96 sl97 sl98 sl99 : Value) :
    (Code.tl (Code.tl (Code.tl (Code.tl (Code.tl (Code.tl (Code.tl (Code.tl ((Tryz.f8.body).getD .skip))))))))).wp Tryz.prog (bodyPost Tryz.prog Tryz.f8 (fun e w' => e = .returned (.bool true) ∧ Below w.heap.size w w')) ⟨#[sl0, sl1, sl2, sl3, sl4, sl5, .pointer (some ⟨B6, 0, none⟩), .pointer (some ⟨B7, 0, none⟩), .pointer (some ⟨B8, 0, none⟩), sl9, .pointer (some ⟨B10, 0, none⟩), sl11, sl12, sl13, sl14, sl15, sl16, sl17, sl18, sl19, sl20, sl21, sl22, sl23, sl24, sl25, sl26, sl27, sl28, sl29, sl30, sl31, sl32, sl33, sl34, sl35, sl36, sl37, sl38, sl39, sl40, sl41, sl42, sl43, sl44, sl45, sl46, sl47, sl48, sl49, sl50, sl51, sl52, sl53, sl54, sl55, sl56, sl57, sl58, sl59, sl60, sl61, sl62, sl63, sl64, sl65, sl66, sl67, sl68, sl69, sl70, sl71, sl72, sl73, sl74, sl75, sl76, sl77, sl78, sl79, sl80, sl81, sl82, sl83, sl84, sl85, sl86, sl87, sl88, sl89, sl90, sl91, sl92, sl93, sl94, sl95, sl96, sl97, sl98, sl99], []⟩ W := by
  simp only [Code.tl, Tryz.f8, Option.getD_some]
  have HBW := hide hbe; have X6 := hide hx6; have L6 := hide (LatG.mk hl6); have X7 := hide hx7; have L7 := hide (LatG.mk hl7); have X8 := hide hx8; have L8 := hide (LatG.mk hl8); have X10 := hide hx10; have L10 := hide (LatG.mk hl10)
  have HGE := hide hE; have HGK := hide hG
  have HI1 := hide (in_sum hF.len hS)
  have HI2 : Hid (∀ u ∈ ks, Gens n (InL ss) u) := fun u hu => (hS u).2 (.base (List.mem_append_right _ hu) (hG.len u hu))
  have HI3 := hide (both_in hH.len hB).2
  have HSEC := hide (fun zs1 zs2 (q1 : InvQ hs ss ps zs1) (q2 : InvQ mm ks pk zs2) => InvQ.second hF hG hE hH hS hB HI1.out HI2.out HI3.out q1 q2)
  have hsl := hE.short; have hhl := hF.short; have hkl := hG.short; have hml := hH.short
  clear hbe hx6 hl6 hx7 hl7 hx8 hl8 hx10 hl10 hF hG hE hH hS hB
  obtain ⟨a0, a1, a2, a3⟩ := X6.out.1
  obtain ⟨b0, b1, b2, b3⟩ := X8.out.1
  go_wp2_with fail
  clear a0 a1 a2 a3 b0 b1 b2 b3
  refine (quotient_ok W _ _ n 6 (n * 6 + 2) hs ss ps (by exact L6.out.lat) (by exact L8.out.lat) HGE.out h1 h4 (roomSec n (by omega)).1 HI1.out roomS7).mono ?_
  rintro e w1 ⟨uq, M, zs, rfl, q1, hM, hz4, -, -, -, -, hb1, qi⟩
  have VQ := hide (VecG.mk q1)
  obtain ⟨zo, zcap, rfl, -, -⟩ := q1
  have HQ1 := hide qi
  clear qi
  obtain ⟨fr, hfr⟩ : ∃ fr, ((ss.length : Int) - (hs.length : Int)) = fr := ⟨_, rfl⟩
  have HFR := hide hfr
  rw [hfr]
  clear hfr
  have X6' := hide (X6.out.later hb1)
  have X7' := hide (X7.out.later hb1)
  have X8' := hide (X8.out.later hb1)
  have X10' := hide (X10.out.later hb1)
  have L6' := hide (L6.out.later hb1)
  have L7' := hide (L7.out.later hb1)
  have L8' := hide (L8.out.later hb1)
  have L10' := hide (L10.out.later hb1)
  clear X6 X7 X8 X10 L6 L7 L8 L10
  have X6 := X6'
  have X7 := X7'
  have X8 := X8'
  have X10 := X10'
  have L6 := L6'
  have L7 := L7'
  have L8 := L8'
  have L10 := L10'
  clear X6' X7' X8' X10' L6' L7' L8' L10'
  have HBW' := hide (HBW.out.trans (hb1.mono HBW.out.size))
  clear HBW
  have HBW := HBW'
  clear HBW'
  clear hb1
  have hN1 := below_new w1 (.cells #[.slice zo zs.length zcap, .int .i64 fr] 77)
  have XQ := hide (BoxL.new w1 (.slice zo zs.length zcap) (.int .i64 fr) 77)
  have X6' := hide (X6.out.later hN1)
  have X7' := hide (X7.out.later hN1)
  have X8' := hide (X8.out.later hN1)
  have X10' := hide (X10.out.later hN1)
  have L6' := hide (L6.out.later hN1)
  have L7' := hide (L7.out.later hN1)
  have L8' := hide (L8.out.later hN1)
  have L10' := hide (L10.out.later hN1)
  have VQ' := hide (VQ.out.later hN1)
  clear X6 X7 X8 X10 L6 L7 L8 L10 VQ
  have X6 := X6'
  have X7 := X7'
  have X8 := X8'
  have X10 := X10'
  have L6 := L6'
  have L7 := L7'
  have L8 := L8'
  have L10 := L10'
  have VQ := VQ'
  clear X6' X7' X8' X10' L6' L7' L8' L10' VQ'
  have HBW' := hide (HBW.out.trans (hN1.mono HBW.out.size))
  clear HBW
  have HBW := HBW'
  clear HBW'
  clear hN1
  obtain ⟨a0, a1, a2, a3⟩ := X10.out.1
  obtain ⟨b0, b1, b2, b3⟩ := X7.out.1
  go_wp2_with fail
  clear a0 a1 a2 a3 b0 b1 b2 b3
  generalize w1.alloc (.cells #[.slice zo zs.length zcap, .int .i64 fr] 77) = W1 at *
  generalize w1.heap.size = BQ at *
  refine (quotient_ok W1 _ _ n ((n + n) * 6 + 2) 6 mm ks pk (by exact L10.out.lat) (by exact L7.out.lat) HGK.out h1 h4 (roomSec n (by omega)).2 HI3.out (fun m _ hm => roomSz n (by omega) m (by omega))).mono ?_
  rintro e w2 ⟨uy, M2, zs2, rfl, q1, hM2, -, -, -, -, -, hb2, qi⟩
  obtain ⟨hrk, rfl⟩ := HSEC.out zs zs2 HQ1.out qi
  have VY := hide (VecG.mk q1)
  obtain ⟨yo, ycap, rfl, -, -⟩ := q1
  have hfr2 : ((ks.length : Int) - (mm.length : Int)) = fr := by have := HFR.out; omega
  rw [hfr2]
  clear hfr2 hrk qi HQ1 HSEC
  have XQ' := hide (XQ.out.later hb2)
  have VQ' := hide (VQ.out.later hb2)
  clear XQ VQ
  have XQ := XQ'
  have VQ := VQ'
  clear XQ' VQ'
  have HBW' := hide (HBW.out.trans (hb2.mono HBW.out.size))
  clear HBW
  have HBW := HBW'
  clear HBW'
  clear hb2
  have hN1 := below_new w2 (.cells #[.slice yo zs.length ycap, .int .i64 fr] 77)
  have XR := hide (BoxL.new w2 (.slice yo zs.length ycap) (.int .i64 fr) 77)
  have XQ' := hide (XQ.out.later hN1)
  have VQ' := hide (VQ.out.later hN1)
  have VY' := hide (VY.out.later hN1)
  clear XQ VQ VY
  have XQ := XQ'
  have VQ := VQ'
  have VY := VY'
  clear XQ' VQ' VY'
  have HBW' := hide (HBW.out.trans (hN1.mono HBW.out.size))
  clear HBW
  have HBW := HBW'
  clear HBW'
  clear hN1 X6 X7 X8 X10 L6 L7 L8 L10 HGE HGK HI1 HI2 HI3 HFR
  have hne : (fr != fr) = false := by simp
  have hne2 : ((zs.length : Int) != (zs.length : Int)) = false := by simp
  obtain ⟨a0, a1, a2, a3⟩ := XQ.out.1
  obtain ⟨b0, b1, b2, b3⟩ := XR.out.1
  go_wp2
  clear a0 a1 a2 a3 b0 b1 b2 b3
  clear hne hne2
  generalize w2.alloc (.cells #[.slice yo zs.length ycap, .int .i64 fr] 77) = W2 at *
  generalize w2.heap.size = BR at *
  go_loopw [16] (fun x wr => ∃ j : Nat, j ≤ zs.length ∧ x = .int .i64 j ∧ Hid (Below W2.heap.size W2 wr)) (fun x _ => zs.length - (intOf x).toNat)
  case atStart => exact ⟨0, Nat.zero_le _, rfl, hide (Below.refl _ _)⟩
  case round =>
    obtain ⟨j, hj, rfl, HBL⟩ := hrel
    obtain ⟨d0, -, -, -⟩ := (XQ.out.later HBL.out).1
    obtain ⟨e0, -, -, -⟩ := (XR.out.later HBL.out).1
    have lq := (XQ.out.later HBL.out).2; have lr := (XR.out.later HBL.out).2
    by_cases hjl : j < zs.length
    · obtain ⟨zb, zoff, _, e⟩ := VQ.out.vec.form (by omega)
      simp only [Value.slice.injEq, true_and] at e
      obtain ⟨rfl, rfl⟩ := e
      obtain ⟨yb, yoff, _, e⟩ := VY.out.vec.form (by omega)
      simp only [Value.slice.injEq, true_and] at e
      obtain ⟨rfl, rfl⟩ := e
      obtain ⟨lz, an, ao, al, ac, a2, a3, na⟩ := (VQ.out.later HBL.out).vec.at j hjl
      obtain ⟨ly, bn, bo, bl, bc, b2, b3, nb⟩ := (VY.out.later HBL.out).vec.at j hjl
      generalize zs.getD j 0 = z at *
      have NA := hide na; have NB := hide nb
      clear na nb
      go_wp2_with fail
      refine wp_region_held_drew (S := (fun w' => w'.cell? ⟨BQ, 0, none⟩ = some (.slice (some ⟨zb, zoff, none⟩) zs.length zcap) ∧ w'.cell? ⟨zb, zoff + j * 2, none⟩ = some (.bool an) ∧ w'.cell? ⟨zb, zoff + j * 2 + 1, none⟩ = some (.slice ao al ac) ∧ w'.cell? ⟨BR, 0, none⟩ = some (.slice (some ⟨yb, yoff, none⟩) zs.length ycap) ∧ w'.cell? ⟨yb, yoff + j * 2, none⟩ = some (.bool bn) ∧ w'.cell? ⟨yb, yoff + j * 2 + 1, none⟩ = some (.slice bo bl bc))) (by kernel_rfl) (by (try dsimp only); go_keep) (fun hHeld => ?_)
      refine held_run (v := ?_) 0 88 rfl rfl (by kernel_rfl) (by kernel_rfl) (by kernel_rfl) (fun _ _ _ h => h) (by rfl) ?_ (by assumption) ?_
      rotate_left
      · (intro w hSw; (try dsimp only at hSw); go_simp; with_reducible rfl)
      simp only [Act.put, List.setIfInBounds_toArray, List.set_cons_zero, List.set_cons_succ]
      refine held_run (v := ?_) 1 89 rfl rfl (by kernel_rfl) (by kernel_rfl) (by kernel_rfl) (fun _ _ _ h => h) (by rfl) ?_ (by assumption) ?_
      rotate_left
      · (intro w hSw; (try dsimp only at hSw); go_simp; with_reducible rfl)
      simp only [Act.put, List.setIfInBounds_toArray, List.set_cons_zero, List.set_cons_succ]
      refine held_run (v := ?_) 2 90 rfl rfl (by kernel_rfl) (by kernel_rfl) (by kernel_rfl) (fun _ _ _ h => h) (by rfl) ?_ (by assumption) ?_
      rotate_left
      · (intro w hSw; (try dsimp only at hSw); go_simp; with_reducible rfl)
      simp only [Act.put, List.setIfInBounds_toArray, List.set_cons_zero, List.set_cons_succ]
      refine held_run (v := ?_) 3 91 rfl rfl (by kernel_rfl) (by kernel_rfl) (by kernel_rfl) (fun _ _ _ h => h) (by rfl) ?_ (by assumption) ?_
      rotate_left
      · (intro w hSw; (try dsimp only at hSw); go_simp; with_reducible rfl)
      simp only [Act.put, List.setIfInBounds_toArray, List.set_cons_zero, List.set_cons_succ]
      refine held_run (v := ?_) 4 92 rfl rfl (by kernel_rfl) (by kernel_rfl) (by kernel_rfl) (fun _ _ _ h => h) (by rfl) ?_ (by assumption) ?_
      rotate_left
      · (intro w hSw; (try dsimp only at hSw); go_simp; with_reducible rfl)
      simp only [Act.put, List.setIfInBounds_toArray, List.set_cons_zero, List.set_cons_succ]
      refine held_run (v := ?_) 5 93 rfl rfl (by kernel_rfl) (by kernel_rfl) (by kernel_rfl) (fun _ _ _ h => h) (by rfl) ?_ (by assumption) ?_
      rotate_left
      · (intro w hSw; (try dsimp only at hSw); go_simp; with_reducible rfl)
      simp only [Act.put, List.setIfInBounds_toArray, List.set_cons_zero, List.set_cons_succ]
      refine held_run (v := ?_) 6 94 rfl rfl (by kernel_rfl) (by kernel_rfl) (by kernel_rfl) (fun _ _ _ h => h) (by rfl) ?_ (by assumption) ?_
      rotate_left
      · (intro w hSw; (try dsimp only at hSw); go_simp; with_reducible rfl)
      simp only [Act.put, List.setIfInBounds_toArray, List.set_cons_zero, List.set_cons_succ]
      refine held_run (v := ?_) 7 95 rfl rfl (by kernel_rfl) (by kernel_rfl) (by kernel_rfl) (fun _ _ _ h => h) (by rfl) ?_ (by assumption) ?_
      rotate_left
      · (intro w hSw; (try dsimp only at hSw); go_simp; with_reducible rfl)
      simp only [Act.put, List.setIfInBounds_toArray, List.set_cons_zero, List.set_cons_succ]
      refine held_run (v := ?_) 8 96 rfl rfl (by kernel_rfl) (by kernel_rfl) (by kernel_rfl) (fun _ _ _ h => h) (by rfl) ?_ (by assumption) ?_
      rotate_left
      · (intro w hSw; (try dsimp only at hSw); go_simp; with_reducible rfl)
      simp only [Act.put, List.setIfInBounds_toArray, List.set_cons_zero, List.set_cons_succ]
      refine held_run (v := ?_) 9 97 rfl rfl (by kernel_rfl) (by kernel_rfl) (by kernel_rfl) (fun _ _ _ h => h) (by rfl) ?_ (by assumption) ?_
      rotate_left
      · (intro w hSw; (try dsimp only at hSw); go_simp; with_reducible rfl)
      simp only [Act.put, List.setIfInBounds_toArray, List.set_cons_zero, List.set_cons_succ]
      refine wpAnyH_ready (rs := [10]) (by kernel_rfl) (by simp) (AllReadyH.cons (o := _) rfl (fun K hK => ?_) AllReadyH.nil)
      go_simp
      refine (is_any wr.drew _ _ z z _ _ (by exact NA.out.below (Below.refl wr.heap.size wr).drew (Nat.le_refl _)) (by exact NB.out.below (Below.refl wr.heap.size wr).drew (Nat.le_refl _))).mono ?_; rintro e wa ⟨rfl, hb1'⟩; rw [is_same]; have hb1 : Below wr.heap.size wr wa := (Below.refl _ _).drew.trans (hb1'.mono (by simp)); have q0 := (hb1.cell (p := ⟨BQ, 0, none⟩) lq).trans d0; have q1 := (hb1.cell (p := ⟨zb, zoff + j * 2, none⟩) lz).trans a2; have q2 := (hb1.cell (p := ⟨zb, zoff + j * 2 + 1, none⟩) lz).trans a3; have q3 := (hb1.cell (p := ⟨BR, 0, none⟩) lr).trans e0; have q4 := (hb1.cell (p := ⟨yb, yoff + j * 2, none⟩) ly).trans b2; have q5 := (hb1.cell (p := ⟨yb, yoff + j * 2 + 1, none⟩) ly).trans b3; have HB1 := hide (HBL.out.trans (hb1.mono HBL.out.size)); clear hb1 hb1'
      go_wp2_with fail
      refine hK.out _ _ (by (try dsimp only); go_keep) (fun hHeld => ?_)
      clear hK K
      try simp only [Act.put, List.setIfInBounds_toArray, List.set_cons_zero, List.set_cons_succ]
      refine held_run (v := ?_) 11 99 rfl rfl (by kernel_rfl) (by kernel_rfl) (by kernel_rfl) (fun _ _ _ h => h) (by rfl) ?_ (by assumption) ?_
      rotate_left
      · (intro w hSw; (try dsimp only at hSw); go_simp; with_reducible rfl)
      simp only [Act.put, List.setIfInBounds_toArray, List.set_cons_zero, List.set_cons_succ]
      refine wpAnyH_done (by kernel_rfl) ?_ _
      clear a2 a3 b2 b3 d0 e0 q0 q1 q2 q3 q4 q5 NA NB HBL
      go_wp2
      go_roundw
      case rel => exact ⟨j + 1, by omega, by go_num, HB1⟩
      case measure => simp [intOf]; omega
    · obtain rfl : j = zs.length := by omega
      have HBE := hide (HBW.out.trans (HBL.out.mono HBW.out.size))
      go_wp2
      go_ret
      exact ⟨rfl, HBE.out⟩

end Go.Proofs.YtdedolkgcdlmeaaGreatDoor
