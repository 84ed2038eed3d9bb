/- TopSmith: of rows and of places they are the same; multiplied, what is made of all. -/
import Derived.Test.YtmeefloajhffbaaDoorDetZ
import Derived.Test.YtmeefloajhffbaaDoorLightM
import Derived.Test.YtmeefloajhffbaaDoorLightT
import Derived.Test.YtmeefloajhffbaaDoorVecG
import Derived.Test.YtmeefloajhffbaaDoorSmE
import Derived.Deep.Cut
import Derived.Deep.CutRange
import Derived.Deep.CutBlock
namespace Go.Proofs.YtmeefloajhffbaaDoor
open Go.RowKit Limbs

set_option linter.unusedSimpArgs false in
set_option maxRecDepth 100000 in
set_option maxHeartbeats 6400000 in
theorem topSmith_E (w W : World) (mo zo eo : Option Addr) (mcap zcap ecap PB n M M2 MP : Nat) (pn : Bool) (pO : Option Addr) (pL pC : Nat) (ms : List (List Int)) (ys : List Int) (hbe : Below w.heap.size w W) (hM : MatN w (.slice mo ms.length mcap) ms 8) (hml : ∀ us ∈ ms, us.length = n) (hn1 : 1 ≤ n) (hn4 : n ≤ 4) (hm1 : 1 ≤ ms.length) (hm4 : ms.length ≤ 4) (hy4 : ys.length ≤ 4) (hyn : ys.length ≤ n) (hD : VecN W (.slice zo ys.length zcap) ys M) (hE : VecN W (.slice eo ys.length ecap) ys M2) (hP : BoxL W PB (.bool pn) (.slice pO pL pC)) (hpn : NumL W (.agg #[.bool pn, .slice pO pL pC]) (prodN ys.length (fun i => ys.getD i 0)) MP) (hdet : ms.length = n → ys.length = n → (if det n (ent ms) < 0 then -det n (ent ms) else det n (ent ms)) = prodN ys.length (fun i => ys.getD i 0)) (sl2 sl3 sl4 sl5 sl6 sl7 sl9 sl10 sl12 sl13 sl14 sl15 sl16 sl17 sl18 sl19 sl21 sl22 sl23 sl24 sl25 sl26 sl27 sl28 sl29 sl30 sl31 sl32 sl33 sl34 sl35 sl36 sl37 sl38 sl39 sl40 sl41 sl42 sl43 sl44 sl45 sl46 sl47 sl48 sl49 sl50 sl51 sl52 sl53 sl54 sl55 sl56 sl57 sl58 sl59 sl60 sl61 sl62 sl63 sl64 sl65 sl66 sl67 sl68 sl69 sl70 sl71 sl72 sl73 sl74 sl75 sl76 sl77 sl78 sl79 sl80 sl81 sl82 sl83 sl84 sl85 sl86 sl87 sl88 sl89 sl90 sl91 sl92 sl93 sl94 sl95 sl96 sl97 sl98 sl99 sl100 sl101 sl102 sl103 sl104 sl105 sl106 sl107 sl108 sl109 sl110 sl111 sl112 sl113 sl114 sl115 sl116 sl117 sl118 sl119 sl120 sl121 sl122 sl123 sl124 sl125 sl126 sl127 sl128 sl129 sl130 sl131 sl132 sl133 sl134 sl135 sl136 sl137 sl138 sl139 sl140 sl141 sl142 sl143 sl144 sl145 sl146 sl147 sl148 sl149 sl150 sl151 sl152 sl153 sl154 sl155 sl156 sl157 sl158 sl159 sl160 sl161 sl162 sl163 sl164 sl165 sl166 sl167 sl168 sl169 sl170 sl171 sl172 sl173 sl174 sl175 sl176 sl177 sl178 sl179 sl180 sl181 sl182 sl183 sl184 sl185 sl186 sl187 sl188 sl189 sl190 sl191 sl192 sl193 sl194 sl195 sl196 sl197 sl198 sl199 sl200 sl201 sl202 sl203 sl204 sl205 sl206 sl207 sl208 sl209 sl210 sl211 sl212 : Value) :
    (Code.tl (Code.tl (Code.tl (Code.tl (Code.tl (Code.tl (Code.tl (Code.tl (Code.tl (Code.tl (Code.tl (Code.tl (Code.tl (Code.tl ((Tryd.f4.body).getD .skip))))))))))))))).wp Tryd.prog (bodyPost Tryd.prog Tryd.f4 (fun e w' => e = .returned (.bool true) ∧ Below w.heap.size w w')) ⟨#[(.slice mo ms.length mcap), (.int .i64 (n : Int)), sl2, sl3, sl4, sl5, sl6, sl7, (.slice zo ys.length zcap), sl9, sl10, (.pointer (some ⟨PB, 0, none⟩)), sl12, sl13, sl14, sl15, sl16, sl17, sl18, sl19, (.slice eo ys.length ecap), sl21, sl22, sl23, sl24, sl25, sl26, sl27, sl28, sl29, sl30, sl31, sl32, sl33, sl34, sl35, sl36, sl37, sl38, sl39, sl40, sl41, sl42, sl43, sl44, sl45, sl46, sl47, sl48, sl49, sl50, sl51, sl52, sl53, sl54, sl55, sl56, sl57, sl58, sl59, sl60, sl61, sl62, sl63, sl64, sl65, sl66, sl67, sl68, sl69, sl70, sl71, sl72, sl73, sl74, sl75, sl76, sl77, sl78, sl79, sl80, sl81, sl82, sl83, sl84, sl85, sl86, sl87, sl88, sl89, sl90, sl91, sl92, sl93, sl94, sl95, sl96, sl97, sl98, sl99, sl100, sl101, sl102, sl103, sl104, sl105, sl106, sl107, sl108, sl109, sl110, sl111, sl112, sl113, sl114, sl115, sl116, sl117, sl118, sl119, sl120, sl121, sl122, sl123, sl124, sl125, sl126, sl127, sl128, sl129, sl130, sl131, sl132, sl133, sl134, sl135, sl136, sl137, sl138, sl139, sl140, sl141, sl142, sl143, sl144, sl145, sl146, sl147, sl148, sl149, sl150, sl151, sl152, sl153, sl154, sl155, sl156, sl157, sl158, sl159, sl160, sl161, sl162, sl163, sl164, sl165, sl166, sl167, sl168, sl169, sl170, sl171, sl172, sl173, sl174, sl175, sl176, sl177, sl178, sl179, sl180, sl181, sl182, sl183, sl184, sl185, sl186, sl187, sl188, sl189, sl190, sl191, sl192, sl193, sl194, sl195, sl196, sl197, sl198, sl199, sl200, sl201, sl202, sl203, sl204, sl205, sl206, sl207, sl208, sl209, sl210, sl211, sl212], []⟩ W := by
  simp only [Code.tl, Tryd.f4, Option.getD_some]
  have HM := hide hM; have HML := hide hml; have HBE := hide hbe; have VD := hide hD; have VE := hide hE; have HPW := hide hP; have NPW := hide hpn; have HDET := hide hdet
  clear hM hml hbe hD hE hP hpn hdet
  go_wp2
  go_loopw [21] (fun x wr => ∃ j : Nat, j ≤ ys.length ∧ x = .int .i64 j ∧ Hid (Below W.heap.size W wr)) (fun x _ => ys.length - (intOf x).toNat)
  case atStart => exact ⟨0, Nat.zero_le _, rfl, hide (Below.refl _ _)⟩
  case round =>
    obtain ⟨j, hj, rfl, HBW⟩ := hrel
    by_cases hjl : j < ys.length
    · obtain ⟨zb, zoff, _, e⟩ := VD.out.form (by omega)
      simp only [Value.slice.injEq, true_and] at e
      obtain ⟨rfl, rfl⟩ := e
      obtain ⟨eb, eoff, _, e⟩ := VE.out.form (by omega)
      simp only [Value.slice.injEq, true_and] at e
      obtain ⟨rfl, rfl⟩ := e
      obtain ⟨lz, an, ao, al, ac, a2, a3, na⟩ := (VD.out.below HBW.out (Nat.le_refl _)).at j hjl
      obtain ⟨le, bn, bo, bl, bc, b2, b3, nb⟩ := (VE.out.below HBW.out (Nat.le_refl _)).at j hjl
      generalize ys.getD j 0 = z at *
      have NA := hide na; have NB := hide nb
      clear na nb
      go_wp2_with fail
      refine wp_region_held_drew (S := (fun w' => w'.cell? ⟨zb, zoff + j * 2, none⟩ = some (.bool an) ∧ w'.cell? ⟨zb, zoff + j * 2 + 1, none⟩ = some (.slice ao al ac) ∧ w'.cell? ⟨eb, eoff + j * 2, none⟩ = some (.bool bn) ∧ w'.cell? ⟨eb, eoff + j * 2 + 1, none⟩ = some (.slice bo bl bc))) (by kernel_rfl) (by (try dsimp only); go_keep) (fun hHeld => ?_)
      refine held_run (v := ?_) 0 180 rfl rfl (by kernel_rfl) (by kernel_rfl) (by kernel_rfl) (fun _ _ _ h => h) (by rfl) ?_ (by assumption) ?_
      rotate_left
      · (intro w hSw; (try dsimp only at hSw); go_simp; with_reducible rfl)
      simp only [Act.put, List.setIfInBounds_toArray, List.set_cons_zero, List.set_cons_succ]
      refine held_run (v := ?_) 1 181 rfl rfl (by kernel_rfl) (by kernel_rfl) (by kernel_rfl) (fun _ _ _ h => h) (by rfl) ?_ (by assumption) ?_
      rotate_left
      · (intro w hSw; (try dsimp only at hSw); go_simp; with_reducible rfl)
      simp only [Act.put, List.setIfInBounds_toArray, List.set_cons_zero, List.set_cons_succ]
      refine held_run (v := ?_) 2 182 rfl rfl (by kernel_rfl) (by kernel_rfl) (by kernel_rfl) (fun _ _ _ h => h) (by rfl) ?_ (by assumption) ?_
      rotate_left
      · (intro w hSw; (try dsimp only at hSw); go_simp; with_reducible rfl)
      simp only [Act.put, List.setIfInBounds_toArray, List.set_cons_zero, List.set_cons_succ]
      refine held_run (v := ?_) 3 183 rfl rfl (by kernel_rfl) (by kernel_rfl) (by kernel_rfl) (fun _ _ _ h => h) (by rfl) ?_ (by assumption) ?_
      rotate_left
      · (intro w hSw; (try dsimp only at hSw); go_simp; with_reducible rfl)
      simp only [Act.put, List.setIfInBounds_toArray, List.set_cons_zero, List.set_cons_succ]
      refine held_run (v := ?_) 4 184 rfl rfl (by kernel_rfl) (by kernel_rfl) (by kernel_rfl) (fun _ _ _ h => h) (by rfl) ?_ (by assumption) ?_
      rotate_left
      · (intro w hSw; (try dsimp only at hSw); go_simp; with_reducible rfl)
      simp only [Act.put, List.setIfInBounds_toArray, List.set_cons_zero, List.set_cons_succ]
      refine held_run (v := ?_) 5 185 rfl rfl (by kernel_rfl) (by kernel_rfl) (by kernel_rfl) (fun _ _ _ h => h) (by rfl) ?_ (by assumption) ?_
      rotate_left
      · (intro w hSw; (try dsimp only at hSw); go_simp; with_reducible rfl)
      simp only [Act.put, List.setIfInBounds_toArray, List.set_cons_zero, List.set_cons_succ]
      refine held_run (v := ?_) 6 186 rfl rfl (by kernel_rfl) (by kernel_rfl) (by kernel_rfl) (fun _ _ _ h => h) (by rfl) ?_ (by assumption) ?_
      rotate_left
      · (intro w hSw; (try dsimp only at hSw); go_simp; with_reducible rfl)
      simp only [Act.put, List.setIfInBounds_toArray, List.set_cons_zero, List.set_cons_succ]
      refine held_run (v := ?_) 7 187 rfl rfl (by kernel_rfl) (by kernel_rfl) (by kernel_rfl) (fun _ _ _ h => h) (by rfl) ?_ (by assumption) ?_
      rotate_left
      · (intro w hSw; (try dsimp only at hSw); go_simp; with_reducible rfl)
      simp only [Act.put, List.setIfInBounds_toArray, List.set_cons_zero, List.set_cons_succ]
      refine wpAnyH_ready (rs := [8]) (by kernel_rfl) (by simp) (AllReadyH.cons (o := _) rfl (fun K hK => ?_) AllReadyH.nil)
      go_simp
      refine (is_any wr.drew _ _ z z _ _ (by exact NA.out.below (Below.refl wr.heap.size wr).drew (Nat.le_refl _)) (by exact NB.out.below (Below.refl wr.heap.size wr).drew (Nat.le_refl _))).mono ?_; rintro e w1 ⟨rfl, hb1'⟩; rw [is_self]; have hb1 : Below wr.heap.size wr w1 := (Below.refl _ _).drew.trans (hb1'.mono (by simp)); have q0 := (hb1.cell (p := ⟨zb, zoff + j * 2, none⟩) lz).trans a2; have q1 := (hb1.cell (p := ⟨zb, zoff + j * 2 + 1, none⟩) lz).trans a3; have q2 := (hb1.cell (p := ⟨eb, eoff + j * 2, none⟩) le).trans b2; have q3 := (hb1.cell (p := ⟨eb, eoff + j * 2 + 1, none⟩) le).trans b3; have HB1 := hide (HBW.out.trans (hb1.mono HBW.out.size)); clear hb1 hb1'
      go_wp2_with fail
      refine hK.out _ _ (by (try dsimp only); go_keep) (fun hHeld => ?_)
      clear hK K
      try simp only [Act.put, List.setIfInBounds_toArray, List.set_cons_zero, List.set_cons_succ]
      refine held_run (v := ?_) 9 189 rfl rfl (by kernel_rfl) (by kernel_rfl) (by kernel_rfl) (fun _ _ _ h => h) (by rfl) ?_ (by assumption) ?_
      rotate_left
      · (intro w hSw; (try dsimp only at hSw); go_simp; with_reducible rfl)
      simp only [Act.put, List.setIfInBounds_toArray, List.set_cons_zero, List.set_cons_succ]
      refine wpAnyH_done (by kernel_rfl) ?_ _
      clear a2 a3 b2 b3 q0 q1 q2 q3 NA NB HBW
      go_wp2
      go_roundw
      case rel => exact ⟨j + 1, by omega, by go_num, HB1⟩
      case measure => simp [intOf]; omega
    · obtain rfl : j = ys.length := by omega
      have HBX := hide (HBE.out.trans (HBW.out.mono HBE.out.size))
      by_cases hmn : ms.length = n
      · by_cases hyl2 : ys.length < n
        · have g1 : ((ms.length : Int) != (n : Int)) = false := by rw [bne_eq_false_iff_eq]; omega
          have g2 : decide ((ys.length : Int) < (n : Int)) = true := decide_eq_true (by omega)
          go_wp2
          go_ret
          exact ⟨rfl, HBX.out⟩
        · subst hmn
          have g2 : decide ((ys.length : Int) < (ms.length : Int)) = false := decide_eq_false (by omega)
          have HEQ := hide (HDET.out rfl (by omega))
          go_wp2_with fail
          · refine (det_start wr _ ms ms.length 8 (by exact HM.out.below HBX.out (Nat.le_refl _)) rfl HML.out hm1 (by omega) (by omega)).mono ?_
            rintro e w4 ⟨v4, rfl, hv4, hb4⟩
            obtain ⟨⟨xn, xO, xL, xC⟩, rfl⟩ := hv4.nm
            have hN1 := below_new w4 (.cells #[.bool xn, .slice xO xL xC] 26)
            have HX := hide (BoxL.new w4 (.bool xn) (.slice xO xL xC) 26)
            have hb5 := hb4.trans (hN1.mono hb4.size)
            have HP := hide ((HPW.out.later HBW.out).later hb5); have NP := hide ((NPW.out.below HBW.out (Nat.le_refl _)).below hb5 (Nat.le_refl _)); have NX := hide (hv4.below hN1 (Nat.le_refl _)); have HB5 := hide (HBX.out.trans (hb5.mono HBX.out.size))
            clear hv4 hb4 hb5 hN1
            go_upto_region 43 with fail
            generalize (w4.alloc (.cells #[.bool xn, .slice xO xL xC] 26)) = W5 at *
            generalize w4.heap.size = XB at *
            have hdr : Below W5.heap.size W5 W5.drew := (Below.refl _ _).drew
            have HPd := hide (HP.out.later hdr); have HXd := hide (HX.out.later hdr); have NPd := hide (NP.out.below hdr (Nat.le_refl _)); have NXd := hide (NX.out.below hdr (Nat.le_refl _))
            have HBd := hide (HB5.out.trans (hdr.mono HB5.out.size))
            clear hdr
            obtain ⟨x0, x1, -, -⟩ := HX.out.1; obtain ⟨p0, p1, -, -⟩ := HP.out.1
            refine wp_region_held_drew (S := (fun w' => w'.cell? ⟨XB, 0, none⟩ = some (.bool xn) ∧ w'.cell? ⟨XB, 1, none⟩ = some (.slice xO xL xC) ∧ w'.cell? ⟨PB, 0, none⟩ = some (.bool pn) ∧ w'.cell? ⟨PB, 1, none⟩ = some (.slice pO pL pC))) (by kernel_rfl) (by (try dsimp only); go_keep) (fun hHeld => ?_)
            refine held_run (v := ?_) 0 205 rfl rfl (by kernel_rfl) (by kernel_rfl) (by kernel_rfl) (fun _ _ _ h => h) (by rfl) ?_ (by assumption) ?_
            rotate_left
            · (intro w hSw; (try dsimp only at hSw); go_simp; with_reducible rfl)
            simp only [Act.put, List.setIfInBounds_toArray, List.set_cons_zero, List.set_cons_succ]
            refine held_run (v := ?_) 1 206 rfl rfl (by kernel_rfl) (by kernel_rfl) (by kernel_rfl) (fun _ _ _ h => h) (by rfl) ?_ (by assumption) ?_
            rotate_left
            · (intro w hSw; (try dsimp only at hSw); go_simp; with_reducible rfl)
            simp only [Act.put, List.setIfInBounds_toArray, List.set_cons_zero, List.set_cons_succ]
            refine held_run (v := ?_) 2 207 rfl rfl (by kernel_rfl) (by kernel_rfl) (by kernel_rfl) (fun _ _ _ h => h) (by rfl) ?_ (by assumption) ?_
            rotate_left
            · (intro w hSw; (try dsimp only at hSw); go_simp; with_reducible rfl)
            simp only [Act.put, List.setIfInBounds_toArray, List.set_cons_zero, List.set_cons_succ]
            refine held_run (v := ?_) 3 208 rfl rfl (by kernel_rfl) (by kernel_rfl) (by kernel_rfl) (fun _ _ _ h => h) (by rfl) ?_ (by assumption) ?_
            rotate_left
            · (intro w hSw; (try dsimp only at hSw); go_simp; with_reducible rfl)
            simp only [Act.put, List.setIfInBounds_toArray, List.set_cons_zero, List.set_cons_succ]
            refine held_run (v := ?_) 5 210 rfl rfl (by kernel_rfl) (by kernel_rfl) (by kernel_rfl) (fun _ _ _ h => h) (by rfl) ?_ (by assumption) ?_
            rotate_left
            · (intro w hSw; (try dsimp only at hSw); go_simp; with_reducible rfl)
            simp only [Act.put, List.setIfInBounds_toArray, List.set_cons_zero, List.set_cons_succ]
            refine wpAnyH_ready (rs := [4]) (by kernel_rfl) (by simp) (AllReadyH.cons (o := _) rfl (fun K hK => ?_) AllReadyH.nil)
            go_simp
            refine (abs_any _ _ _ _ (by exact NXd.out) (by omega)).mono ?_; rintro e w7 ⟨rv, rfl, hv7, hb7⟩; have NZ7 := hide hv7; have HP7 := hide (HPd.out.later hb7); have HX7 := hide (HXd.out.later hb7); have NP7 := hide (NPd.out.below hb7 (Nat.le_refl _)); have NX7 := hide (NXd.out.below hb7 (Nat.le_refl _)); have HB7 := hide (HBd.out.trans (hb7.mono HBd.out.size)); clear hv7 hb7 p0 p1 x0 x1; obtain ⟨x0, x1, -, -⟩ := HX7.out.1; obtain ⟨p0, p1, -, -⟩ := HP7.out.1
            go_wp2_with fail
            refine hK.out _ _ (by (try dsimp only); go_keep) (fun hHeld => ?_)
            clear hK K
            try simp only [Act.put, List.setIfInBounds_toArray, List.set_cons_zero, List.set_cons_succ]
            refine wpAnyH_ready (rs := [6]) (by kernel_rfl) (by simp) (AllReadyH.cons (o := _) rfl (fun K hK => ?_) AllReadyH.nil)
            go_simp
            refine (is_any w7 _ _ _ _ _ _ (by exact NZ7.out) (by exact NP7.out)).mono ?_; rintro e w8 ⟨rfl, hb8⟩; rw [HEQ.out, is_self]; have HP8 := hide (HP7.out.later hb8); have HX8 := hide (HX7.out.later hb8); have NP8 := hide (NP7.out.below hb8 (Nat.le_refl _)); have NX8 := hide (NX7.out.below hb8 (Nat.le_refl _)); have HB8 := hide (HB7.out.trans (hb8.mono HB7.out.size)); clear hb8 p0 p1 x0 x1; obtain ⟨x0, x1, -, -⟩ := HX8.out.1; obtain ⟨p0, p1, -, -⟩ := HP8.out.1
            go_wp2_with fail
            refine hK.out _ _ (by (try dsimp only); go_keep) (fun hHeld => ?_)
            clear hK K
            try simp only [Act.put, List.setIfInBounds_toArray, List.set_cons_zero, List.set_cons_succ]
            refine held_run (v := ?_) 7 212 rfl rfl (by kernel_rfl) (by kernel_rfl) (by kernel_rfl) (fun _ _ _ h => h) (by rfl) ?_ (by assumption) ?_
            rotate_left
            · (intro w hSw; (try dsimp only at hSw); go_simp; with_reducible rfl)
            simp only [Act.put, List.setIfInBounds_toArray, List.set_cons_zero, List.set_cons_succ]
            refine held_run (v := ?_) 8 4 rfl rfl (by kernel_rfl) (by kernel_rfl) (by kernel_rfl) (fun _ _ _ h => h) (by rfl) ?_ (by assumption) ?_
            rotate_left
            · (intro w hSw; (try dsimp only at hSw); go_simp; with_reducible rfl)
            simp only [Act.put, List.setIfInBounds_toArray, List.set_cons_zero, List.set_cons_succ]
            refine wpAnyH_done (by kernel_rfl) ?_ _
            go_wp2
            go_ret
            exact ⟨rfl, HB8.out⟩
      · have g1 : ((ms.length : Int) != (n : Int)) = true := by rw [bne_iff_ne]; omega
        go_wp2
        go_ret
        exact ⟨rfl, HBX.out⟩

end Go.Proofs.YtmeefloajhffbaaDoor
