/- TopDet: what is made of the one form. -/
import Derived.Test.YtmeefloajhffbaaDoorTdE
import Derived.Deep.Cut
import Derived.Deep.CutRange
namespace Go.Proofs.YtmeefloajhffbaaDoor
open Go.RowKit Limbs

set_option linter.unusedSimpArgs false in
set_option maxRecDepth 100000 in
set_option maxHeartbeats 6400000 in
theorem topDet_B (w W : World) (mo : Option Addr) (mcap DB nd : Nat) (iv jv : Int) (dn : Bool) (dO : Option Addr) (dL dC : Nat) (kn : Bool) (ko : Option Addr) (kl kc : Nat) (z : Int) (ms hs : List (List Int)) (ho : Option Addr) (hcap : Nat) (p : Nat → Nat) (hbe : Below w.heap.size w W) (hM : MatN w (.slice mo ms.length mcap) ms 8) (hml : ∀ us ∈ ms, us.length = ms.length) (hn1 : 1 ≤ ms.length) (hn6 : ms.length ≤ 6) (hK : NumL w (.agg #[.bool kn, .slice ko kl kc]) z 3) (hkb : BoxL W w.heap.size (.bool kn) (.slice ko kl kc)) (hD : BoxL W DB (.bool dn) (.slice dO dL dC)) (hdn : NumL W (.agg #[.bool dn, .slice dO dL dC]) (det ms.length (ent ms)) nd) (hnd : nd ≤ 1000) (hH : MatN W (.slice ho hs.length hcap) hs (ms.length * 8 + 2)) (hF : FormL ms.length hs p) (hA : Alikes ms.length (InL hs) (InL ms)) (hhn : hs.length ≤ ms.length) (sl3 sl4 sl5 sl6 sl8 sl9 sl12 sl15 sl16 sl17 sl18 sl19 sl20 sl21 sl22 sl23 sl24 sl25 sl26 sl27 sl28 sl29 sl30 sl31 sl32 sl33 sl34 sl35 sl36 sl37 sl38 sl39 sl40 sl41 sl42 sl43 sl44 sl45 sl46 sl47 sl48 sl49 sl50 sl51 sl52 sl53 sl54 sl55 sl56 sl57 sl58 sl59 sl60 sl61 sl62 sl63 sl64 sl65 sl66 sl67 sl68 sl69 sl70 sl71 sl72 sl73 sl74 sl75 sl76 sl77 sl78 sl79 sl80 sl81 sl82 sl83 sl84 sl85 sl86 sl87 sl88 sl89 sl90 sl91 sl92 sl93 sl94 sl95 sl96 sl97 sl98 sl99 sl100 sl101 sl102 sl103 sl104 sl105 sl106 sl107 sl108 sl109 sl110 sl111 sl112 sl113 sl114 sl115 sl116 sl117 sl118 sl119 sl120 sl121 sl122 sl123 sl124 sl125 sl126 sl127 sl128 sl129 sl130 sl131 sl132 sl133 sl134 sl135 sl136 sl137 sl138 sl139 sl140 sl141 sl142 sl143 sl144 sl145 sl146 sl147 sl148 sl149 sl150 sl151 sl152 sl153 sl154 sl155 sl156 sl157 sl158 sl159 sl160 sl161 sl162 sl163 sl164 sl165 sl166 sl167 sl168 sl169 sl170 sl171 sl172 sl173 sl174 sl175 sl176 sl177 : Value) :
    (Code.tl (Code.tl (Code.tl (Code.tl (Code.tl (Code.tl (Code.tl (Code.tl (Code.tl ((Tryd.f3.body).getD .skip)))))))))).wp Tryd.prog (bodyPost Tryd.prog Tryd.f3 (fun e w' => e = .returned (.bool true) ∧ Below w.heap.size w w')) ⟨#[(.slice mo ms.length mcap), (.int .i64 iv), (.int .i64 jv), sl3, sl4, sl5, sl6, (.pointer (some ⟨w.heap.size, 0, none⟩)), sl8, sl9, (.nilIface), (.int .i64 (ms.length : Int)), sl12, (.pointer (some ⟨DB, 0, none⟩)), (.slice ho hs.length hcap), sl15, sl16, sl17, sl18, sl19, sl20, sl21, sl22, sl23, sl24, sl25, sl26, sl27, sl28, sl29, sl30, sl31, sl32, sl33, sl34, sl35, sl36, sl37, sl38, sl39, sl40, sl41, sl42, sl43, sl44, sl45, sl46, sl47, sl48, sl49, sl50, sl51, sl52, sl53, sl54, sl55, sl56, sl57, sl58, sl59, sl60, sl61, sl62, sl63, sl64, sl65, sl66, sl67, sl68, sl69, sl70, sl71, sl72, sl73, sl74, sl75, sl76, sl77, sl78, sl79, sl80, sl81, sl82, sl83, sl84, sl85, sl86, sl87, sl88, sl89, sl90, sl91, sl92, sl93, sl94, sl95, sl96, sl97, sl98, sl99, sl100, sl101, sl102, sl103, sl104, sl105, sl106, sl107, sl108, sl109, sl110, sl111, sl112, sl113, sl114, sl115, sl116, sl117, sl118, sl119, sl120, sl121, sl122, sl123, sl124, sl125, sl126, sl127, sl128, sl129, sl130, sl131, sl132, sl133, sl134, sl135, sl136, sl137, sl138, sl139, sl140, sl141, sl142, sl143, sl144, sl145, sl146, sl147, sl148, sl149, sl150, sl151, sl152, sl153, sl154, sl155, sl156, sl157, sl158, sl159, sl160, sl161, sl162, sl163, sl164, sl165, sl166, sl167, sl168, sl169, sl170, sl171, sl172, sl173, sl174, sl175, sl176, sl177], []⟩ W := by
  simp only [Code.tl, Tryd.f3, Option.getD_some]
  have HM := hide hM; have HML := hide hml; have HBE := hide hbe; have HDW := hide hD; have NDW := hide hdn; have HK := hide hK; have HKB := hide hkb; have HH := hide hH; have HFO := hide hF; have HAL := hide hA
  clear hM hml hbe hD hdn hK hkb hH hF hA
  go_upto_if 78 with fail
  go_cut [15, 16] from 26 (fun _ _ wc => Below W.heap.size W wc)
  case first =>
    by_cases hlt : hs.length < ms.length
    · have gl : ((hs.length : Int) < (ms.length : Int)) := by omega
      have HZ : Hid (decide (det ms.length (ent ms) = 0) = true) := decide_eq_true (det_less rfl HML.out HAL.out hlt)
      obtain ⟨d0, d1, -, -⟩ := HDW.out.1
      go_wp2_with fail
      refine (zero_any W _ _ nd (by exact NDW.out)).mono ?_
      rintro e w1 ⟨rfl, hb1⟩
      rw [HZ.out]
      have HB1 := hide hb1
      clear hb1
      go_wp2
      go_meet
      case rel => exact HB1.out
    · have gl : ¬ ((hs.length : Int) < (ms.length : Int)) := by omega
      have hle : hs.length = ms.length := by omega
      have HEQ : Hid (prodN ms.length (fun i => ent hs i i) = if det ms.length (ent ms) < 0 then -det ms.length (ent ms) else det ms.length (ent ms)) := (det_diag rfl HML.out (sq_of HFO.out hle) HAL.out).symm
      have HLE := hide hle
      clear hle hlt
      go_wp2_with fail
      refine (of_any W 1 (by decide) (by decide)).mono ?_
      rintro e w1 ⟨v1, rfl, hv1, hb1⟩
      obtain ⟨⟨pn, pO, pL, pC⟩, rfl⟩ := hv1.nm
      have hN1 := below_new w1 (.cells #[.bool pn, .slice pO pL pC] 26)
      have HPI : Hid (∃ qn qO qL qC, BoxL (w1.alloc (.cells #[.bool pn, .slice pO pL pC] 26)) w1.heap.size (.bool qn) (.slice qO qL qC) ∧ NumL (w1.alloc (.cells #[.bool pn, .slice pO pL pC] 26)) (.agg #[.bool qn, .slice qO qL qC]) (prodN 0 (fun i => ent hs i i)) (2 + 0 * (ms.length * 8 + 2))) := ⟨pn, pO, pL, pC, BoxL.new w1 _ _ _, (hv1.below hN1 (Nat.le_refl _)).mono (by omega)⟩
      have HB2 := hide (hb1.trans (hN1.mono hb1.size)); have HPW := hide hb1.size
      clear hv1 hb1 hN1
      go_wp2
      generalize (w1.alloc (.cells #[.bool pn, .slice pO pL pC] 26)) = W2 at *
      generalize w1.heap.size = PB at *
      go_loopw [16] (fun x wr => ∃ j : Nat, j ≤ ms.length ∧ x = .int .i64 j ∧ Hid (∃ pn pO pL pC, BoxL wr PB (.bool pn) (.slice pO pL pC) ∧ NumL wr (.agg #[.bool pn, .slice pO pL pC]) (prodN j (fun i => ent hs i i)) (2 + j * (ms.length * 8 + 2))) ∧ Hid (Below W.heap.size W wr)) (fun x _ => ms.length - (intOf x).toNat)
      case atStart => exact ⟨0, Nat.zero_le _, rfl, HPI, HB2⟩
      case round =>
        clear HPI HB2
        obtain ⟨j, hj, rfl, HPI, HBW⟩ := hrel
        obtain ⟨pn, pO, pL, pC, hPX, hNP⟩ := HPI.out
        have HPX := hide hPX; have NP := hide hNP; have HPL := hide hPX.2
        clear hPX hNP HPI
        by_cases hjl : j < ms.length
        · have hjh : j < hs.length := by have := HLE.out; omega
          have HJN : Hid (j * (ms.length * 8 + 2) ≤ 6 * 50) := Nat.mul_le_mul (by omega) (by omega)
          obtain ⟨hb, hoff, hcap', eh, hbl, vr, cr, hvr⟩ := (HH.out.below HBW.out (Nat.le_refl _)).at j hjh
          simp only [Value.slice.injEq, true_and] at eh
          obtain ⟨rfl, rfl⟩ := eh
          have hul := HFO.out.len _ (List.getElem_mem hjh)
          have HEN : Hid ((hs[j]).getD j 0 = ent hs j j) := by show _ = _; unfold ent; rw [getD_row hjh]
          generalize hs[j] = us at *
          have huj : j < us.length := by omega
          obtain ⟨vb, voff, vcap, rfl⟩ := hvr.form (by omega)
          obtain ⟨vbl, en, eo, el, ec, c0, c1, ne⟩ := hvr.at j huj
          rw [HEN.out] at ne
          have NE := hide ne
          obtain ⟨p0, p1, -, -⟩ := HPX.out.1
          clear ne hvr hul
          go_wp2_with fail
          refine up_start (A := fun j => decide (j = 0 ∨ j = 4 ∨ j = 7 ∨ j = 8)) (S := (fun w' => w'.cell? ⟨PB, 0, none⟩ = some (.bool pn) ∧ w'.cell? ⟨PB, 1, none⟩ = some (.slice pO pL pC) ∧ w'.cell? ⟨hb, hoff + j, none⟩ = some (.slice (some ⟨vb, voff, none⟩) us.length vcap) ∧ w'.cell? ⟨vb, voff + j * 2, none⟩ = some (.bool en) ∧ w'.cell? ⟨vb, voff + j * 2 + 1, none⟩ = some (.slice eo el ec))) (by kernel_rfl) (by exact ⟨p0, p1, cr, c0, c1⟩) (fun hHeld => ?_)
          refine up_pure (v := ?_) 1 89 rfl rfl (by kernel_rfl) (by kernel_rfl) (by kernel_rfl) (by kernel_rfl) (fun _ _ _ h => h) (by rfl) ?_ ?_
          rotate_left
          · (intro w; go_simp; with_reducible rfl)
          simp only [Act.put, List.setIfInBounds_toArray, List.set_cons_zero, List.set_cons_succ]
          refine up_pure (v := ?_) 2 90 rfl rfl (by kernel_rfl) (by kernel_rfl) (by kernel_rfl) (by kernel_rfl) (fun _ _ _ h => h) (by rfl) ?_ ?_
          rotate_left
          · (intro w; go_simp; with_reducible rfl)
          simp only [Act.put, List.setIfInBounds_toArray, List.set_cons_zero, List.set_cons_succ]
          refine up_pure (v := ?_) 3 91 rfl rfl (by kernel_rfl) (by kernel_rfl) (by kernel_rfl) (by kernel_rfl) (fun _ _ _ h => h) (by rfl) ?_ ?_
          rotate_left
          · (intro w; go_simp; with_reducible rfl)
          simp only [Act.put, List.setIfInBounds_toArray, List.set_cons_zero, List.set_cons_succ]
          refine up_pure (v := ?_) 5 93 rfl rfl (by kernel_rfl) (by kernel_rfl) (by kernel_rfl) (by kernel_rfl) (fun _ _ _ h => h) (by rfl) ?_ ?_
          rotate_left
          · (intro w; go_simp; with_reducible rfl)
          simp only [Act.put, List.setIfInBounds_toArray, List.set_cons_zero, List.set_cons_succ]
          refine up_run (v := ?_) 4 92 [6, 7, 8, 9] rfl rfl (by kernel_rfl) (by kernel_rfl) (by kernel_rfl) (by kernel_rfl) (fun _ _ _ h => h) (by rfl) ?_ (by assumption) ?_
          rotate_left
          · (intro w hSw; (try dsimp only at hSw); obtain ⟨hS1, hS2, hS3, hS4, hS5⟩ := hSw; go_simp; with_reducible rfl)
          simp only [Act.put, List.setIfInBounds_toArray, List.set_cons_zero, List.set_cons_succ]
          refine up_pure (v := ?_) 6 94 rfl rfl (by kernel_rfl) (by kernel_rfl) (by kernel_rfl) (by kernel_rfl) (fun _ _ _ h => h) (by rfl) ?_ ?_
          rotate_left
          · (intro w; go_simp; with_reducible rfl)
          simp only [Act.put, List.setIfInBounds_toArray, List.set_cons_zero, List.set_cons_succ]
          refine up_run (v := ?_) 0 88 [8, 9] rfl rfl (by kernel_rfl) (by kernel_rfl) (by kernel_rfl) (by kernel_rfl) (fun _ _ _ h => h) (by rfl) ?_ (by assumption) ?_
          rotate_left
          · (intro w hSw; (try dsimp only at hSw); obtain ⟨hS1, hS2, hS3, hS4, hS5⟩ := hSw; go_simp; with_reducible rfl)
          simp only [Act.put, List.setIfInBounds_toArray, List.set_cons_zero, List.set_cons_succ]
          refine up_run (v := ?_) 7 95 [8, 9] rfl rfl (by kernel_rfl) (by kernel_rfl) (by kernel_rfl) (by kernel_rfl) (fun _ _ _ h => h) (by rfl) ?_ (by assumption) ?_
          rotate_left
          · (intro w hSw; (try dsimp only at hSw); obtain ⟨hS1, hS2, hS3, hS4, hS5⟩ := hSw; go_simp; with_reducible rfl)
          simp only [Act.put, List.setIfInBounds_toArray, List.set_cons_zero, List.set_cons_succ]
          refine up_one 8 (by kernel_rfl) rfl (fun K hK => ?_)
          go_simp
          refine (mul_any wr.drew _ _ _ _ _ _ (by exact NP.out.below (Below.refl wr.heap.size wr).drew (Nat.le_refl _)) (by exact NE.out.below (Below.refl wr.heap.size wr).drew (Nat.le_refl _)) (by have := HJN.out; omega) (by omega)).mono ?_
          rintro e w3 ⟨v3, rfl, hv3, hb3'⟩
          obtain ⟨⟨zn, zO, zL, zC⟩, rfl⟩ := hv3.nm
          have hb3 : Below wr.heap.size wr w3 := (Below.refl _ _).drew.trans (hb3'.mono (by simp))
          have e0 := (hb3.cell (p := ⟨PB, 0, none⟩) HPL.out).trans p0; have e1 := (hb3.cell (p := ⟨PB, 1, none⟩) HPL.out).trans p1
          have e2 := (hb3.cell (p := ⟨hb, hoff + j, none⟩) hbl).trans cr; have e3 := (hb3.cell (p := ⟨vb, voff + j * 2, none⟩) vbl).trans c0; have e4 := (hb3.cell (p := ⟨vb, voff + j * 2 + 1, none⟩) vbl).trans c1
          have HP3 := hide (HPX.out.later hb3); have HB3 := hide (HBW.out.trans (hb3.mono HBW.out.size)); have N3 := hide hv3
          have f0 := HP3.out.1.2.2.1; have f1 := HP3.out.1.2.2.2
          clear hv3 hb3' hb3
          go_wp2_with fail
          refine hK.out _ _ (fun _ => ⟨e0, e1, e2, e3, e4⟩) ?_
          clear hK K
          try simp only [Act.put, List.setIfInBounds_toArray, List.set_cons_zero, List.set_cons_succ]
          refine up_one 9 (by kernel_rfl) rfl (fun K hK => ?_)
          go_simp
          refine hK.out _ _ (fun h => absurd h (by decide)) ?_
          clear hK K
          try simp only [Act.put, List.setIfInBounds_toArray, List.set_cons_zero, List.set_cons_succ]
          refine up_done (by kernel_rfl) ?_
          have HP4 : Hid (∃ pn pO pL pC, BoxL ((w3.setCell ⟨PB, 0, none⟩ (.bool zn)).setCell ⟨PB, 1, none⟩ (.slice zO zL zC)) PB (.bool pn) (.slice pO pL pC) ∧ NumL ((w3.setCell ⟨PB, 0, none⟩ (.bool zn)).setCell ⟨PB, 1, none⟩ (.slice zO zL zC)) (.agg #[.bool pn, .slice pO pL pC]) (prodN (j + 1) (fun i => ent hs i i)) (2 + (j + 1) * (ms.length * 8 + 2))) := ⟨zn, zO, zL, zC, ⟨HP3.out.1.write _ _, by simpa using HP3.out.2⟩, (N3.out.wrote HP3.out.1 (by simp) (by simp)).mono (by rw [Nat.add_mul]; omega)⟩
          have HB4 := hide ((HB3.out.setCell (p := ⟨PB, 0, none⟩) HPW.out (.bool zn)).setCell (p := ⟨PB, 1, none⟩) HPW.out (.slice zO zL zC))
          clear e0 e1 e2 e3 e4 f0 f1 p0 p1 cr c0 c1 HP3 HB3 N3 NE NP HPX HBW HPL hHeld
          go_wp2
          go_roundw
          case rel => exact ⟨j + 1, by omega, by go_num, HP4, HB4⟩
          case measure => simp [intOf]; omega
        · obtain rfl : j = ms.length := by omega
          have HDx := hide (HDW.out.later HBW.out); have ND := hide (NDW.out.below HBW.out (Nat.le_refl _)); have HP := HPX
          have hdr : Below wr.heap.size wr wr.drew := (Below.refl _ _).drew
          have HPd := hide (HP.out.later hdr); have HDxd := hide (HDx.out.later hdr); have NPd := hide (NP.out.below hdr (Nat.le_refl _)); have NDd := hide (ND.out.below hdr (Nat.le_refl _))
          have HBd := hide (HBW.out.trans (hdr.mono HBW.out.size))
          clear hdr
          obtain ⟨p0, p1, -, -⟩ := HP.out.1; obtain ⟨d0, d1, -, -⟩ := HDx.out.1
          go_upto_region 22 with fail
          refine wp_region_held_drew (S := (fun w' => w'.cell? ⟨PB, 0, none⟩ = some (.bool pn) ∧ w'.cell? ⟨PB, 1, none⟩ = some (.slice pO pL pC) ∧ w'.cell? ⟨DB, 0, none⟩ = some (.bool dn) ∧ w'.cell? ⟨DB, 1, none⟩ = some (.slice dO dL dC))) (by kernel_rfl) (by (try dsimp only); go_keep) (fun hHeld => ?_)
          refine held_run (v := ?_) 0 97 rfl rfl (by kernel_rfl) (by kernel_rfl) (by kernel_rfl) (fun _ _ _ h => h) (by rfl) ?_ (by assumption) ?_
          rotate_left
          · (intro w hSw; (try dsimp only at hSw); go_simp; with_reducible rfl)
          simp only [Act.put, List.setIfInBounds_toArray, List.set_cons_zero, List.set_cons_succ]
          refine held_run (v := ?_) 1 98 rfl rfl (by kernel_rfl) (by kernel_rfl) (by kernel_rfl) (fun _ _ _ h => h) (by rfl) ?_ (by assumption) ?_
          rotate_left
          · (intro w hSw; (try dsimp only at hSw); go_simp; with_reducible rfl)
          simp only [Act.put, List.setIfInBounds_toArray, List.set_cons_zero, List.set_cons_succ]
          refine wpAnyH_ready (rs := [2]) (by kernel_rfl) (by simp) (AllReadyH.cons (o := _) rfl (fun K hK => ?_) AllReadyH.nil)
          go_simp
          refine (abs_any _ _ _ nd (by exact NDd.out) (by omega)).mono ?_; rintro e w7 ⟨rv, rfl, hv7, hb7⟩; have NZ7 := hide hv7; have HP7 := hide (HPd.out.later hb7); have HDx7 := hide (HDxd.out.later hb7); have NP7 := hide (NPd.out.below hb7 (Nat.le_refl _)); have ND7 := hide (NDd.out.below hb7 (Nat.le_refl _)); have HB7 := hide (HBd.out.trans (hb7.mono HBd.out.size)); clear hv7 hb7 p0 p1 d0 d1; obtain ⟨p0, p1, -, -⟩ := HP7.out.1; obtain ⟨d0, d1, -, -⟩ := HDx7.out.1
          go_wp2_with fail
          refine hK.out _ _ (by (try dsimp only); go_keep) (fun hHeld => ?_)
          clear hK K
          try simp only [Act.put, List.setIfInBounds_toArray, List.set_cons_zero, List.set_cons_succ]
          refine wpAnyH_ready (rs := [3]) (by kernel_rfl) (by simp) (AllReadyH.cons (o := _) rfl (fun K hK => ?_) AllReadyH.nil)
          go_simp
          refine (is_any w7 _ _ _ _ _ _ (by exact NP7.out) (by exact NZ7.out)).mono ?_; rintro e w8 ⟨rfl, hb8⟩; rw [HEQ.out, is_self]; have HP8 := hide (HP7.out.later hb8); have HDx8 := hide (HDx7.out.later hb8); have NP8 := hide (NP7.out.below hb8 (Nat.le_refl _)); have ND8 := hide (ND7.out.below hb8 (Nat.le_refl _)); have HB8 := hide (HB7.out.trans (hb8.mono HB7.out.size)); clear hb8 p0 p1 d0 d1; obtain ⟨p0, p1, -, -⟩ := HP8.out.1; obtain ⟨d0, d1, -, -⟩ := HDx8.out.1
          go_wp2_with fail
          refine hK.out _ _ (by (try dsimp only); go_keep) (fun hHeld => ?_)
          clear hK K
          try simp only [Act.put, List.setIfInBounds_toArray, List.set_cons_zero, List.set_cons_succ]
          refine held_run (v := ?_) 4 101 rfl rfl (by kernel_rfl) (by kernel_rfl) (by kernel_rfl) (fun _ _ _ h => h) (by rfl) ?_ (by assumption) ?_
          rotate_left
          · (intro w hSw; (try dsimp only at hSw); go_simp; with_reducible rfl)
          simp only [Act.put, List.setIfInBounds_toArray, List.set_cons_zero, List.set_cons_succ]
          refine wpAnyH_done (by kernel_rfl) ?_ _
          go_wp2
          go_meet
          case rel => exact HB8.out
  case rest =>
  apply_assumption
  exact topDet_E w _ mo mcap DB nd iv jv dn dO dL dC kn ko kl kc z ms (HBE.out.trans (hcut.mono HBE.out.size)) HM.out HML.out hn1 hn6 HK.out (HKB.out.later hcut) (HDW.out.later hcut) (NDW.out.below hcut (Nat.le_refl _)) hnd _ _ _ _ _ _ _ _ _ _ _ _ _ _ _ _ _ _ _ _ _ _ _ _ _ _ _ _ _ _ _ _ _ _ _ _ _ _ _ _ _ _ _ _ _ _ _ _ _ _ _ _ _ _ _ _ _ _ _ _ _ _ _ _ _ _ _ _ _ _ _ _ _ _ _ _ _ _ _ _ _ _ _ _ _ _ _ _ _ _ _ _ _ _ _ _ _ _ _ _ _ _ _ _ _ _ _ _ _ _ _ _ _ _ _ _ _ _ _ _ _ _ _ _ _ _ _ _ _ _ _ _ _ _ _ _ _ _ _ _ _ _ _ _ _ _ _ _ _ _ _ _ _ _ _ _ _ _ _ _ _ _ _ _ _ _ _ _ _ _ _ _

end Go.Proofs.YtmeefloajhffbaaDoor
