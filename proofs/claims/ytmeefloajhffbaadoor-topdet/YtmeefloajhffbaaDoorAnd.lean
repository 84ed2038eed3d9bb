/- TopDet: rows that were turned about, or put to each other. -/
import Derived.Test.YtmeefloajhffbaaDoorDetZ
import Derived.Test.YtmeefloajhffbaaDoorOpenM
import Derived.Test.YtmeefloajhffbaaDoorVecX
import Derived.Test.YtmeefloajhffbaaDoorLightT
import Derived.Deep.Cut
import Derived.Deep.CutRange
import Derived.Test.YtmeefloajhffbaaDoorOpens
import Derived.Laws.BitsLemmas

namespace Go.Proofs.YtmeefloajhffbaaDoor
open Go.RowKit Limbs

set_option linter.unusedSimpArgs false in
set_option maxRecDepth 100000 in
set_option maxHeartbeats 6400000 in
theorem topDet_D (w W : World) (mo : Option Addr) (mcap a rb scap P DB nd : Nat) (dn : Bool) (dO : Option Addr) (dL dC : Nat) (ms ss : List (List Int)) (us : List Int) (dt : Int) (hbe : Below w.heap.size w W) (hM : MatN w (.slice mo ms.length mcap) ms 8) (hml : ∀ us ∈ ms, us.length = ms.length) (hn1 : 1 ≤ ms.length) (hn6 : ms.length ≤ 6) (hal : a < ms.length) (hD : BoxL W DB (.bool dn) (.slice dO dL dC)) (hdn : NumL W (.agg #[.bool dn, .slice dO dL dC]) dt nd) (hnd : nd ≤ 1000) (hS : MatN W (.slice (some ⟨rb, 0, none⟩) ms.length scap) ss 8) (hsl : ss.length = ms.length) (hss : ∀ us ∈ ss, us.length = ms.length) (hsd : det ms.length (ent ss) = -dt) (hU : VecN W (.slice (some ⟨P, 0, none⟩) ms.length ms.length) us 13) (hul : us.length = ms.length) (hud : det ms.length (ent (ms.set a us)) = dt) (sl1 sl2 sl3 sl4 sl5 sl6 sl7 sl8 sl9 sl11 sl12 sl14 sl15 sl16 sl18 sl21 sl22 sl23 sl24 sl25 sl26 sl27 sl28 sl29 sl30 sl31 sl32 sl33 sl34 sl35 sl36 sl37 sl38 sl39 sl40 sl41 sl42 sl43 sl44 sl45 sl46 sl47 sl48 sl49 sl50 sl51 sl52 sl53 sl54 sl55 sl56 sl57 sl58 sl59 sl60 sl61 sl62 sl63 sl64 sl65 sl66 sl67 sl68 sl69 sl70 sl71 sl72 sl73 sl74 sl75 sl76 sl77 sl78 sl79 sl80 sl81 sl82 sl83 sl84 sl85 sl86 sl87 sl88 sl89 sl90 sl91 sl92 sl93 sl94 sl95 sl96 sl97 sl98 sl99 sl100 sl101 sl102 sl103 sl104 sl105 sl106 sl107 sl108 sl109 sl110 sl111 sl112 sl113 sl114 sl115 sl116 sl117 sl118 sl119 sl120 sl121 sl122 sl123 sl124 sl125 sl126 sl127 sl128 sl129 sl130 sl131 sl132 sl133 sl134 sl135 sl136 sl137 sl138 sl139 sl140 sl141 sl142 sl143 sl144 sl145 sl146 sl147 sl148 sl149 sl150 sl151 sl152 sl153 sl154 sl155 sl156 sl157 sl158 sl159 sl160 sl161 sl162 sl163 sl164 sl165 sl166 sl167 sl168 sl169 sl170 sl171 sl172 sl173 sl174 sl175 sl176 sl177 : Value) :
    (Code.tl (Code.tl (Code.tl (Code.tl (Code.tl (Code.tl (Code.tl (Code.tl (Code.tl (Code.tl (Code.tl (Code.tl (Code.tl (Code.tl (Code.tl (Code.tl (Code.tl ((Tryd.f3.body).getD .skip)))))))))))))))))).wp Tryd.prog (bodyPost Tryd.prog Tryd.f3 (fun e w' => e = .returned (.bool true) ∧ Below w.heap.size w w')) ⟨#[(.slice mo ms.length mcap), sl1, sl2, sl3, sl4, sl5, sl6, sl7, sl8, sl9, (.nilIface), sl11, sl12, (.pointer (some ⟨DB, 0, none⟩)), sl14, sl15, sl16, (.int .i64 (a : Int)), sl18, (.slice (some ⟨rb, 0, none⟩) ms.length scap), (.slice (some ⟨P, 0, none⟩) ms.length ms.length), sl21, sl22, sl23, sl24, sl25, sl26, sl27, sl28, sl29, sl30, sl31, sl32, sl33, sl34, sl35, sl36, sl37, sl38, sl39, sl40, sl41, sl42, sl43, sl44, sl45, sl46, sl47, sl48, sl49, sl50, sl51, sl52, sl53, sl54, sl55, sl56, sl57, sl58, sl59, sl60, sl61, sl62, sl63, sl64, sl65, sl66, sl67, sl68, sl69, sl70, sl71, sl72, sl73, sl74, sl75, sl76, sl77, sl78, sl79, sl80, sl81, sl82, sl83, sl84, sl85, sl86, sl87, sl88, sl89, sl90, sl91, sl92, sl93, sl94, sl95, sl96, sl97, sl98, sl99, sl100, sl101, sl102, sl103, sl104, sl105, sl106, sl107, sl108, sl109, sl110, sl111, sl112, sl113, sl114, sl115, sl116, sl117, sl118, sl119, sl120, sl121, sl122, sl123, sl124, sl125, sl126, sl127, sl128, sl129, sl130, sl131, sl132, sl133, sl134, sl135, sl136, sl137, sl138, sl139, sl140, sl141, sl142, sl143, sl144, sl145, sl146, sl147, sl148, sl149, sl150, sl151, sl152, sl153, sl154, sl155, sl156, sl157, sl158, sl159, sl160, sl161, sl162, sl163, sl164, sl165, sl166, sl167, sl168, sl169, sl170, sl171, sl172, sl173, sl174, sl175, sl176, sl177], []⟩ W := by
  simp only [Code.tl, Tryd.f3, Option.getD_some]
  obtain ⟨j0, hj, hy0, hy1, hy2⟩ := info_parts Tryd.infoVec
  have HJ := hide hj; have HQ0 := hide hy0; have HQ1 := hide hy1; have HQ2 := hide hy2
  clear hj hy0 hy1 hy2
  have HM := hide (hM.below hbe (Nat.le_refl _)); have HML := hide hml; have HBE := hide hbe; have HDW := hide hD; have NDW := hide hdn; have HSW := hide hS; have HSL := hide hsl; have HSS := hide hss; have HSD := hide hsd; have HU := hide hU; have HUL := hide hul; have HUD := hide hud
  have HPOS : Hid (∀ u ∈ ms, 0 < u.length) := fun u hu => by rw [hml u hu]; exact hn1
  clear hM hml hbe hD hdn hS hsl hss hsd hU hul hud
  go_wp2_with (at_builtin; refine wpList_copy_rows rfl _ _ 23 rfl j0 (by kernel_rfl) HJ.out HQ0.out HQ1.out HQ2.out rfl _ _ ms 8 rfl HM.out hn1 (by omega) HPOS.out ?_)
  rintro r2 cap2 w2 hc2 hrd2
  have HR2 := hide ((hrd2 0).mono (show 8 ≤ 13 by decide))
  have HB2 := hide (hrd2 0).below
  obtain ⟨o1, l1, c1, d1, -, -⟩ := HR2.out.row a ms[a] (List.getElem?_eq_getElem hal)
  have q1 := HR2.out.thaw a
  have HR3 := hide (HR2.out.set hal (HU.out.below HB2.out (Nat.le_refl _)) (fun _ _ => Or.inr (Nat.zero_le _)))
  have HB3 := hide HR3.out.below
  have HMO : Hid (MatN (w2.setCell ⟨r2, a, none⟩ (.slice (some ⟨P, 0, none⟩) ms.length ms.length)) (.slice (some ⟨r2, 0, none⟩) ms.length cap2) (ms.set a us) 13) := by
    have := HR3.out.mat cap2 (by rw [List.length_set]; exact hc2)
    rw [List.length_set] at this
    exact this
  have HD3 := hide (HDW.out.later HB3.out); have ND3 := hide (NDW.out.below HB3.out (Nat.le_refl _)); have HS3 := hide (HSW.out.below HB3.out (Nat.le_refl _))
  clear hrd2
  go_wp2_with fail
  generalize (w2.setCell ⟨r2, a, none⟩ (.slice (some ⟨P, 0, none⟩) ms.length ms.length)) = W3 at *
  clear d1 q1 HR2 HR3 HB2 hc2
  refine (det_start W3 _ ss ms.length 8 HS3.out HSL.out HSS.out hn1 (by omega) (by omega)).mono ?_
  rintro e w4 ⟨v4, rfl, hv4, hb4⟩
  rw [HSD.out] at hv4
  obtain ⟨⟨xn, xO, xL, xC⟩, rfl⟩ := hv4.nm
  have hN1 := below_new w4 (.cells #[.bool xn, .slice xO xL xC] 26)
  have HX5 := hide (BoxL.new w4 (.bool xn) (.slice xO xL xC) 26)
  have hb5 := hb4.trans (hN1.mono hb4.size)
  have HD5 := hide (HD3.out.later hb5); have ND5 := hide (ND3.out.below hb5 (Nat.le_refl _)); have NX5 := hide (hv4.below hN1 (Nat.le_refl _)); have HM5 := hide (HMO.out.below hb5 (Nat.le_refl _)); have HB5 := hide (HB3.out.trans (hb5.mono HB3.out.size))
  clear hv4 hb4 hb5 hN1 HD3 ND3 HMO HB3 HS3
  go_wp2_with fail
  generalize (w4.alloc (.cells #[.bool xn, .slice xO xL xC] 26)) = W5 at *
  generalize w4.heap.size = XB at *
  refine (det_start W5 _ (ms.set a us) ms.length 13 HM5.out (by rw [List.length_set]) (fun u hu => by rcases List.mem_or_eq_of_mem_set hu with hu | rfl <;> first | exact HML.out u hu | exact HUL.out) hn1 (by omega) (by omega)).mono ?_
  rintro e w6 ⟨v6, rfl, hv6, hb6⟩
  rw [HUD.out] at hv6
  obtain ⟨⟨yn, yO, yL, yC⟩, rfl⟩ := hv6.nm
  have hN2 := below_new w6 (.cells #[.bool yn, .slice yO yL yC] 26)
  have HY6 := hide (BoxL.new w6 (.bool yn) (.slice yO yL yC) 26)
  have hb7 := hb6.trans (hN2.mono hb6.size)
  have HD6 := hide (HD5.out.later hb7); have ND6 := hide (ND5.out.below hb7 (Nat.le_refl _)); have HX6 := hide (HX5.out.later hb7); have NX6 := hide (NX5.out.below hb7 (Nat.le_refl _)); have NY6 := hide (hv6.below hN2 (Nat.le_refl _)); have HB6 := hide (HBE.out.trans ((HB5.out.trans (hb7.mono HB5.out.size)).mono HBE.out.size))
  clear hv6 hb6 hb7 hN2 HD5 ND5 HX5 NX5 HB5 HM5
  go_upto_region 37 with fail
  generalize (w6.alloc (.cells #[.bool yn, .slice yO yL yC] 26)) = W6 at *
  generalize w6.heap.size = YB at *
  have hdr : Below W6.heap.size W6 W6.drew := (Below.refl _ _).drew
  have HDd := hide (HD6.out.later hdr); have HXd := hide (HX6.out.later hdr); have HYd := hide (HY6.out.later hdr); have NDd := hide (ND6.out.below hdr (Nat.le_refl _)); have NXd := hide (NX6.out.below hdr (Nat.le_refl _)); have NYd := hide (NY6.out.below hdr (Nat.le_refl _))
  have HBd := hide (HB6.out.trans (hdr.mono HB6.out.size))
  clear hdr
  obtain ⟨d0, d1, -, -⟩ := HD6.out.1; obtain ⟨x0, x1, -, -⟩ := HX6.out.1; obtain ⟨y0, y1, -, -⟩ := HY6.out.1
  refine wp_region_held_drew (S := (fun w' => w'.cell? ⟨DB, 0, none⟩ = some (.bool dn) ∧ w'.cell? ⟨DB, 1, none⟩ = some (.slice dO dL dC) ∧ w'.cell? ⟨XB, 0, none⟩ = some (.bool xn) ∧ w'.cell? ⟨XB, 1, none⟩ = some (.slice xO xL xC) ∧ w'.cell? ⟨YB, 0, none⟩ = some (.bool yn) ∧ w'.cell? ⟨YB, 1, none⟩ = some (.slice yO yL yC))) (by kernel_rfl) (by (try dsimp only); go_keep) (fun hHeld => ?_)
  refine held_run (v := ?_) 0 161 rfl rfl (by kernel_rfl) (by kernel_rfl) (by kernel_rfl) (fun _ _ _ h => h) (by rfl) ?_ (by assumption) ?_
  rotate_left
  · (intro w hSw; (try dsimp only at hSw); go_simp; with_reducible rfl)
  simp only [Act.put, List.setIfInBounds_toArray, List.set_cons_zero, List.set_cons_succ]
  refine held_run (v := ?_) 1 162 rfl rfl (by kernel_rfl) (by kernel_rfl) (by kernel_rfl) (fun _ _ _ h => h) (by rfl) ?_ (by assumption) ?_
  rotate_left
  · (intro w hSw; (try dsimp only at hSw); go_simp; with_reducible rfl)
  simp only [Act.put, List.setIfInBounds_toArray, List.set_cons_zero, List.set_cons_succ]
  refine held_run (v := ?_) 2 163 rfl rfl (by kernel_rfl) (by kernel_rfl) (by kernel_rfl) (fun _ _ _ h => h) (by rfl) ?_ (by assumption) ?_
  rotate_left
  · (intro w hSw; (try dsimp only at hSw); go_simp; with_reducible rfl)
  simp only [Act.put, List.setIfInBounds_toArray, List.set_cons_zero, List.set_cons_succ]
  refine held_run (v := ?_) 3 164 rfl rfl (by kernel_rfl) (by kernel_rfl) (by kernel_rfl) (fun _ _ _ h => h) (by rfl) ?_ (by assumption) ?_
  rotate_left
  · (intro w hSw; (try dsimp only at hSw); go_simp; with_reducible rfl)
  simp only [Act.put, List.setIfInBounds_toArray, List.set_cons_zero, List.set_cons_succ]
  refine held_run (v := ?_) 4 165 rfl rfl (by kernel_rfl) (by kernel_rfl) (by kernel_rfl) (fun _ _ _ h => h) (by rfl) ?_ (by assumption) ?_
  rotate_left
  · (intro w hSw; (try dsimp only at hSw); go_simp; with_reducible rfl)
  simp only [Act.put, List.setIfInBounds_toArray, List.set_cons_zero, List.set_cons_succ]
  refine held_run (v := ?_) 5 166 rfl rfl (by kernel_rfl) (by kernel_rfl) (by kernel_rfl) (fun _ _ _ h => h) (by rfl) ?_ (by assumption) ?_
  rotate_left
  · (intro w hSw; (try dsimp only at hSw); go_simp; with_reducible rfl)
  simp only [Act.put, List.setIfInBounds_toArray, List.set_cons_zero, List.set_cons_succ]
  refine held_run (v := ?_) 6 167 rfl rfl (by kernel_rfl) (by kernel_rfl) (by kernel_rfl) (fun _ _ _ h => h) (by rfl) ?_ (by assumption) ?_
  rotate_left
  · (intro w hSw; (try dsimp only at hSw); go_simp; with_reducible rfl)
  simp only [Act.put, List.setIfInBounds_toArray, List.set_cons_zero, List.set_cons_succ]
  refine held_run (v := ?_) 7 168 rfl rfl (by kernel_rfl) (by kernel_rfl) (by kernel_rfl) (fun _ _ _ h => h) (by rfl) ?_ (by assumption) ?_
  rotate_left
  · (intro w hSw; (try dsimp only at hSw); go_simp; with_reducible rfl)
  simp only [Act.put, List.setIfInBounds_toArray, List.set_cons_zero, List.set_cons_succ]
  refine held_run (v := ?_) 8 169 rfl rfl (by kernel_rfl) (by kernel_rfl) (by kernel_rfl) (fun _ _ _ h => h) (by rfl) ?_ (by assumption) ?_
  rotate_left
  · (intro w hSw; (try dsimp only at hSw); go_simp; with_reducible rfl)
  simp only [Act.put, List.setIfInBounds_toArray, List.set_cons_zero, List.set_cons_succ]
  refine wpAnyH_ready (rs := [9]) (by kernel_rfl) (by simp) (AllReadyH.cons (o := _) rfl (fun K hK => ?_) AllReadyH.nil)
  go_simp
  refine (neg_any _ _ dt nd (by exact NDd.out) (by omega)).mono ?_; rintro e w7 ⟨rv, rfl, hv7, hb7⟩; have NZ7 := hide hv7; have HD7 := hide (HDd.out.later hb7); have HX7 := hide (HXd.out.later hb7); have HY7 := hide (HYd.out.later hb7); have ND7 := hide (NDd.out.below hb7 (Nat.le_refl _)); have NX7 := hide (NXd.out.below hb7 (Nat.le_refl _)); have NY7 := hide (NYd.out.below hb7 (Nat.le_refl _)); have HB7 := hide (HBd.out.trans (hb7.mono HBd.out.size)); clear hv7 hb7 d0 d1 x0 x1 y0 y1; obtain ⟨d0, d1, -, -⟩ := HD7.out.1; obtain ⟨x0, x1, -, -⟩ := HX7.out.1; obtain ⟨y0, y1, -, -⟩ := HY7.out.1
  go_wp2_with fail
  refine hK.out _ _ (by (try dsimp only); go_keep) (fun hHeld => ?_)
  clear hK K
  try simp only [Act.put, List.setIfInBounds_toArray, List.set_cons_zero, List.set_cons_succ]
  refine wpAnyH_ready (rs := [10]) (by kernel_rfl) (by simp) (AllReadyH.cons (o := _) rfl (fun K hK => ?_) AllReadyH.nil)
  go_simp
  refine (is_any w7 _ _ (-dt) (-dt) _ _ (by exact NX7.out) (by exact NZ7.out)).mono ?_; rintro e w8 ⟨rfl, hb8⟩; rw [is_self]; have HD8 := hide (HD7.out.later hb8); have HX8 := hide (HX7.out.later hb8); have HY8 := hide (HY7.out.later hb8); have ND8 := hide (ND7.out.below hb8 (Nat.le_refl _)); have NX8 := hide (NX7.out.below hb8 (Nat.le_refl _)); have NY8 := hide (NY7.out.below hb8 (Nat.le_refl _)); have HB8 := hide (HB7.out.trans (hb8.mono HB7.out.size)); clear hb8 d0 d1 x0 x1 y0 y1; obtain ⟨d0, d1, -, -⟩ := HD8.out.1; obtain ⟨x0, x1, -, -⟩ := HX8.out.1; obtain ⟨y0, y1, -, -⟩ := HY8.out.1
  go_wp2_with fail
  refine hK.out _ _ (by (try dsimp only); go_keep) (fun hHeld => ?_)
  clear hK K
  try simp only [Act.put, List.setIfInBounds_toArray, List.set_cons_zero, List.set_cons_succ]
  refine held_run (v := ?_) 11 172 rfl rfl (by kernel_rfl) (by kernel_rfl) (by kernel_rfl) (fun _ _ _ h => h) (by rfl) ?_ (by assumption) ?_
  rotate_left
  · (intro w hSw; (try dsimp only at hSw); go_simp; with_reducible rfl)
  simp only [Act.put, List.setIfInBounds_toArray, List.set_cons_zero, List.set_cons_succ]
  refine held_run (v := ?_) 12 173 rfl rfl (by kernel_rfl) (by kernel_rfl) (by kernel_rfl) (fun _ _ _ h => h) (by rfl) ?_ (by assumption) ?_
  rotate_left
  · (intro w hSw; (try dsimp only at hSw); go_simp; with_reducible rfl)
  simp only [Act.put, List.setIfInBounds_toArray, List.set_cons_zero, List.set_cons_succ]
  refine held_run (v := ?_) 13 174 rfl rfl (by kernel_rfl) (by kernel_rfl) (by kernel_rfl) (fun _ _ _ h => h) (by rfl) ?_ (by assumption) ?_
  rotate_left
  · (intro w hSw; (try dsimp only at hSw); go_simp; with_reducible rfl)
  simp only [Act.put, List.setIfInBounds_toArray, List.set_cons_zero, List.set_cons_succ]
  refine held_run (v := ?_) 14 175 rfl rfl (by kernel_rfl) (by kernel_rfl) (by kernel_rfl) (fun _ _ _ h => h) (by rfl) ?_ (by assumption) ?_
  rotate_left
  · (intro w hSw; (try dsimp only at hSw); go_simp; with_reducible rfl)
  simp only [Act.put, List.setIfInBounds_toArray, List.set_cons_zero, List.set_cons_succ]
  refine wpAnyH_ready (rs := [15]) (by kernel_rfl) (by simp) (AllReadyH.cons (o := _) rfl (fun K hK => ?_) AllReadyH.nil)
  go_simp
  refine (is_any w8 _ _ dt dt _ _ (by exact NY8.out) (by exact ND8.out)).mono ?_; rintro e w9 ⟨rfl, hb9⟩; rw [is_self]; have HD9 := hide (HD8.out.later hb9); have HX9 := hide (HX8.out.later hb9); have HY9 := hide (HY8.out.later hb9); have ND9 := hide (ND8.out.below hb9 (Nat.le_refl _)); have NX9 := hide (NX8.out.below hb9 (Nat.le_refl _)); have NY9 := hide (NY8.out.below hb9 (Nat.le_refl _)); have HB9 := hide (HB8.out.trans (hb9.mono HB8.out.size)); clear hb9 d0 d1 x0 x1 y0 y1; obtain ⟨d0, d1, -, -⟩ := HD9.out.1; obtain ⟨x0, x1, -, -⟩ := HX9.out.1; obtain ⟨y0, y1, -, -⟩ := HY9.out.1
  go_wp2_with fail
  refine hK.out _ _ (by (try dsimp only); go_keep) (fun hHeld => ?_)
  clear hK K
  try simp only [Act.put, List.setIfInBounds_toArray, List.set_cons_zero, List.set_cons_succ]
  refine held_run (v := ?_) 16 177 rfl rfl (by kernel_rfl) (by kernel_rfl) (by kernel_rfl) (fun _ _ _ h => h) (by rfl) ?_ (by assumption) ?_
  rotate_left
  · (intro w hSw; (try dsimp only at hSw); go_simp; with_reducible rfl)
  simp only [Act.put, List.setIfInBounds_toArray, List.set_cons_zero, List.set_cons_succ]
  refine held_run (v := ?_) 17 8 rfl rfl (by kernel_rfl) (by kernel_rfl) (by kernel_rfl) (fun _ _ _ h => h) (by rfl) ?_ (by assumption) ?_
  rotate_left
  · (intro w hSw; (try dsimp only at hSw); go_simp; with_reducible rfl)
  simp only [Act.put, List.setIfInBounds_toArray, List.set_cons_zero, List.set_cons_succ]
  refine wpAnyH_done (by kernel_rfl) ?_ _
  go_wp2
  go_ret
  exact ⟨rfl, HB9.out⟩

end Go.Proofs.YtmeefloajhffbaaDoor

/- Places among so many, out of any number. -/
namespace Go.Proofs.YtmeefloajhffbaaDoor
open Go.RowKit Limbs

theorem and1023 (n : Int) : bits .and .i64 n 1023 = n % 1024 := by
  have h : (BitVec.ofInt 64 1023).toNat = 2 ^ 10 - 1 := by decide
  have key : (BitVec.ofInt 64 n &&& BitVec.ofInt 64 1023).toNat = (n % ((2 ^ 64 : Nat) : Int)).toNat % 2 ^ 10 := by
    rw [BitVec.toNat_and, BitVec.toNat_ofInt, h, Nat.and_two_pow_sub_one_eq_mod]
  show IntKind.i64.wrap ((BitVec.ofInt 64 n &&& BitVec.ofInt 64 1023).toNat : Nat) = n % 1024
  rw [key, IntKind.wrap_i64]
  omega

/-- A place among so many. -/
theorem place (i : Int) (m : Nat) (hm : 1 ≤ m) : ∃ a : Nat, (bits .and .i64 i 1023).tmod (m : Int) = (a : Int) ∧ a < m := by
  rw [and1023, Int.tmod_eq_emod_of_nonneg (by omega)]
  have h1 := Int.emod_nonneg (i % 1024) (show (m : Int) ≠ 0 by omega)
  have h2 := Int.emod_lt_of_pos (i % 1024) (show 0 < (m : Int) by omega)
  exact ⟨(i % 1024 % (m : Int)).toNat, by omega, by omega⟩

end Go.Proofs.YtmeefloajhffbaaDoor
