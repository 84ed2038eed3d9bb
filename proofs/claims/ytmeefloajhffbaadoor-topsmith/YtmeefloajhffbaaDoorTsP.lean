/- TopSmith: invariants are above nought, go into each other, and are multiplied. -/
import Derived.Test.YtmeefloajhffbaaDoorTsS
import Derived.Test.YtmeefloajhffbaaDoorUpP
import Derived.Test.YtmeefloajhffbaaDoorFold
import Derived.Deep.Cut
import Derived.Deep.CutRange
import Derived.Deep.CutBlock
namespace Go.Proofs.YtmeefloajhffbaaDoor
open Go.RowKit Limbs

/-- While invariants are multiplied. -/
structure PI (V W : World) (PB M j : Nat) (ys : List Int) : Prop where
  below : Below V.heap.size V W
  low : V.heap.size ≤ PB
  p : ∃ pn pO pL pC, BoxL W PB (.bool pn) (.slice pO pL pC) ∧ NumL W (.agg #[.bool pn, .slice pO pL pC]) (prodN j (fun i => ys.getD i 0)) (2 + j * M)

set_option linter.unusedSimpArgs false in
set_option maxRecDepth 100000 in
set_option maxHeartbeats 6400000 in
theorem topSmith_P (w W : World) (V : World) (mo zo : Option Addr) (mcap zcap PB n M : Nat) (ms : List (List Int)) (ys : List Int) (hbe : Below w.heap.size w V) (hM : MatN w (.slice mo ms.length mcap) ms 8) (hml : ∀ us ∈ ms, us.length = n) (hn1 : 1 ≤ n) (hn4 : n ≤ 4) (hm1 : 1 ≤ ms.length) (hm4 : ms.length ≤ 4) (hy4 : ys.length ≤ 4) (hyn : ys.length ≤ n) (hD : VecN V (.slice zo ys.length zcap) ys M) (hMM : M ≤ 100000) (hI : PI V W PB M 0 ys) (hdet : ms.length = n → ys.length = n → (if det n (ent ms) < 0 then -det n (ent ms) else det n (ent ms)) = prodN ys.length (fun i => ys.getD i 0)) (hpos : ∀ i, i < ys.length → 0 < ys.getD i 0) (hch : ∀ i j, i < j → j < ys.length → ∃ p, ys.getD j 0 = p * ys.getD i 0) (hdv : ∀ k g, Dv k ms.length n (ent ms) g ↔ Dv k ys.length ys.length (dgM fun i => ys.getD i 0) g) (sl2 sl3 sl4 sl5 sl6 sl7 sl9 sl10 sl12 sl13 sl14 sl15 sl16 sl17 sl18 sl19 sl20 sl21 sl22 sl23 sl24 sl25 sl26 sl27 sl28 sl29 sl30 sl31 sl32 sl33 sl34 sl35 sl36 sl37 sl38 sl39 sl40 sl41 sl42 sl43 sl44 sl45 sl46 sl47 sl48 sl49 sl50 sl51 sl52 sl53 sl54 sl55 sl56 sl57 sl58 sl59 sl60 sl61 sl62 sl63 sl64 sl65 sl66 sl67 sl68 sl69 sl70 sl71 sl72 sl73 sl74 sl75 sl76 sl77 sl78 sl79 sl80 sl81 sl82 sl83 sl84 sl85 sl86 sl87 sl88 sl89 sl90 sl91 sl92 sl93 sl94 sl95 sl96 sl97 sl98 sl99 sl100 sl101 sl102 sl103 sl104 sl105 sl106 sl107 sl108 sl109 sl110 sl111 sl112 sl113 sl114 sl115 sl116 sl117 sl118 sl119 sl120 sl121 sl122 sl123 sl124 sl125 sl126 sl127 sl128 sl129 sl130 sl131 sl132 sl133 sl134 sl135 sl136 sl137 sl138 sl139 sl140 sl141 sl142 sl143 sl144 sl145 sl146 sl147 sl148 sl149 sl150 sl151 sl152 sl153 sl154 sl155 sl156 sl157 sl158 sl159 sl160 sl161 sl162 sl163 sl164 sl165 sl166 sl167 sl168 sl169 sl170 sl171 sl172 sl173 sl174 sl175 sl176 sl177 sl178 sl179 sl180 sl181 sl182 sl183 sl184 sl185 sl186 sl187 sl188 sl189 sl190 sl191 sl192 sl193 sl194 sl195 sl196 sl197 sl198 sl199 sl200 sl201 sl202 sl203 sl204 sl205 sl206 sl207 sl208 sl209 sl210 sl211 sl212 : Value) :
    (Code.tl (Code.tl (Code.tl (Code.tl (Code.tl (Code.tl (Code.tl (Code.tl (Code.tl ((Tryd.f4.body).getD .skip)))))))))).wp Tryd.prog (bodyPost Tryd.prog Tryd.f4 (fun e w' => e = .returned (.bool true) ∧ Below w.heap.size w w')) ⟨#[(.slice mo ms.length mcap), (.int .i64 (n : Int)), sl2, sl3, sl4, sl5, sl6, sl7, (.slice zo ys.length zcap), sl9, sl10, (.pointer (some ⟨PB, 0, none⟩)), sl12, sl13, sl14, sl15, sl16, sl17, sl18, sl19, sl20, sl21, sl22, sl23, sl24, sl25, sl26, sl27, sl28, sl29, sl30, sl31, sl32, sl33, sl34, sl35, sl36, sl37, sl38, sl39, sl40, sl41, sl42, sl43, sl44, sl45, sl46, sl47, sl48, sl49, sl50, sl51, sl52, sl53, sl54, sl55, sl56, sl57, sl58, sl59, sl60, sl61, sl62, sl63, sl64, sl65, sl66, sl67, sl68, sl69, sl70, sl71, sl72, sl73, sl74, sl75, sl76, sl77, sl78, sl79, sl80, sl81, sl82, sl83, sl84, sl85, sl86, sl87, sl88, sl89, sl90, sl91, sl92, sl93, sl94, sl95, sl96, sl97, sl98, sl99, sl100, sl101, sl102, sl103, sl104, sl105, sl106, sl107, sl108, sl109, sl110, sl111, sl112, sl113, sl114, sl115, sl116, sl117, sl118, sl119, sl120, sl121, sl122, sl123, sl124, sl125, sl126, sl127, sl128, sl129, sl130, sl131, sl132, sl133, sl134, sl135, sl136, sl137, sl138, sl139, sl140, sl141, sl142, sl143, sl144, sl145, sl146, sl147, sl148, sl149, sl150, sl151, sl152, sl153, sl154, sl155, sl156, sl157, sl158, sl159, sl160, sl161, sl162, sl163, sl164, sl165, sl166, sl167, sl168, sl169, sl170, sl171, sl172, sl173, sl174, sl175, sl176, sl177, sl178, sl179, sl180, sl181, sl182, sl183, sl184, sl185, sl186, sl187, sl188, sl189, sl190, sl191, sl192, sl193, sl194, sl195, sl196, sl197, sl198, sl199, sl200, sl201, sl202, sl203, sl204, sl205, sl206, sl207, sl208, sl209, sl210, sl211, sl212], []⟩ W := by
  simp only [Code.tl, Tryd.f4, Option.getD_some]
  have HM := hide hM; have HML := hide hml; have HBE := hide hbe; have VD := hide hD; have HDET := hide hdet; have HPOS := hide hpos; have HCH := hide hch; have HDV := hide hdv; have HI := hide hI
  clear hM hml hbe hD hdet hpos hch hdv hI
  go_upto_block 0 with fail
  go_cut [4, 12, 13, 14, 15] from 91 to 132 (fun _ _ _ _ _ wc => PI V wc PB M ys.length ys)
  case first =>
   go_wp2_with fail
   go_loopw [12] (fun x wr => ∃ j : Nat, j ≤ ys.length ∧ x = .int .i64 j ∧ Hid (PI V wr PB M j ys)) (fun x _ => ys.length - (intOf x).toNat)
   case atStart => exact ⟨0, Nat.zero_le _, rfl, HI⟩
   case round =>
    clear HI
    obtain ⟨j, hj, rfl, HI⟩ := hrel
    by_cases hjl : j < ys.length
    · obtain ⟨zb, zoff, _, e⟩ := VD.out.form (by omega)
      simp only [Value.slice.injEq, true_and] at e
      obtain ⟨rfl, rfl⟩ := e
      have HVR := hide (VD.out.below HI.out.below (Nat.le_refl _))
      obtain ⟨lz, an, ao, al, ac, a2, a3, na⟩ := HVR.out.at j hjl
      have hzp := HPOS.out j hjl
      have HJM : Hid (j * M ≤ 3 * 100000) := Nat.mul_le_mul (by omega) hMM
      have HC1 : Hid (cmpI (ys.getD j 0) 0 = 1) := by show _ = _; unfold cmpI; rw [if_neg (by omega), if_pos hzp]
      obtain ⟨pn, pO, pL, pC, hyp, hnp⟩ := HI.out.p
      obtain ⟨z, hz⟩ : ∃ z, ys.getD j 0 = z := ⟨_, rfl⟩
      rw [hz] at na HC1
      have HZ := hide hz
      have NZ := hide na; have HP := hide hyp; have NP := hide hnp
      clear na hyp hnp hzp hz
      go_wp2_with fail
      go_region_held3 (fun w' => w'.cell? ⟨zb, zoff + j * 2, none⟩ = some (.bool an) ∧ w'.cell? ⟨zb, zoff + j * 2 + 1, none⟩ = some (.slice ao al ac)) (go_keep)
        (first
          | (go_at_call 12; refine (of_any _ 0 (by decide) (by decide)).mono ?_; rintro e w2 ⟨v2, rfl, hv2, hb2'⟩; have hb2 : Below wr.heap.size wr w2 := (Below.refl _ _).drew.trans (hb2'.mono (by simp)); have m0 := (hb2.cell (p := ⟨zb, zoff + j * 2, none⟩) lz).trans a2; have m1 := (hb2.cell (p := ⟨zb, zoff + j * 2 + 1, none⟩) lz).trans a3; have HB2 := hide hb2; have N2 := hide hv2; have lz2 := Nat.lt_of_lt_of_le lz hb2.size; clear hv2 hb2 hb2')
          | (go_at_call 20; refine (compare_any w2 _ _ z 0 M 2 (by exact NZ.out.below HB2.out (Nat.le_refl _)) (by exact N2.out)).mono ?_; rintro e w3 ⟨rfl, hb3'⟩; rw [HC1.out]; have hb3 : Below wr.heap.size wr w3 := HB2.out.trans (hb3'.mono HB2.out.size); have c2 := (hb3.cell (p := ⟨zb, zoff + j * 2, none⟩) lz).trans a2; have c3 := (hb3.cell (p := ⟨zb, zoff + j * 2 + 1, none⟩) lz).trans a3; have HB3 := hide hb3; have lz3 := Nat.lt_of_lt_of_le lz hb3.size; clear hb3 hb3'))
      have HP3 := hide (HP.out.later HB3.out); have NP3 := hide (NP.out.below HB3.out (Nat.le_refl _)); have NZ3 := hide (NZ.out.below HB3.out (Nat.le_refl _))
      obtain ⟨p0, p1, -, -⟩ := HP3.out.1
      clear m0 m1 a2 a3 HB2 N2 HC1 HP NP NZ lz2
      go_wp2_with fail
      refine up_start (A := fun j => decide (j = 0 ∨ j = 4 ∨ j = 5)) (S := (fun w' => w'.cell? ⟨PB, 0, none⟩ = some (.bool pn) ∧ w'.cell? ⟨PB, 1, none⟩ = some (.slice pO pL pC) ∧ w'.cell? ⟨zb, zoff + j * 2, none⟩ = some (.bool an) ∧ w'.cell? ⟨zb, zoff + j * 2 + 1, none⟩ = some (.slice ao al ac))) (by kernel_rfl) (by exact ⟨p0, p1, c2, c3⟩) (fun hHeld => ?_)
      refine up_pure (v := ?_) 1 105 rfl rfl (by kernel_rfl) (by kernel_rfl) (by kernel_rfl) (by kernel_rfl) (fun _ _ _ h => h) (by rfl) ?_ ?_
      rotate_left
      · (intro w; go_simp; with_reducible rfl)
      simp only [Act.put, List.setIfInBounds_toArray, List.set_cons_zero, List.set_cons_succ]
      refine up_pure (v := ?_) 2 106 rfl rfl (by kernel_rfl) (by kernel_rfl) (by kernel_rfl) (by kernel_rfl) (fun _ _ _ h => h) (by rfl) ?_ ?_
      rotate_left
      · (intro w; go_simp; with_reducible rfl)
      simp only [Act.put, List.setIfInBounds_toArray, List.set_cons_zero, List.set_cons_succ]
      refine up_pure (v := ?_) 3 107 rfl rfl (by kernel_rfl) (by kernel_rfl) (by kernel_rfl) (by kernel_rfl) (fun _ _ _ h => h) (by rfl) ?_ ?_
      rotate_left
      · (intro w; go_simp; with_reducible rfl)
      simp only [Act.put, List.setIfInBounds_toArray, List.set_cons_zero, List.set_cons_succ]
      refine up_run (v := ?_) 0 104 [5, 6] rfl rfl (by kernel_rfl) (by kernel_rfl) (by kernel_rfl) (by kernel_rfl) (fun _ _ _ h => h) (by rfl) ?_ (by assumption) ?_
      rotate_left
      · (intro w hSw; (try dsimp only at hSw); obtain ⟨hS1, hS2, hS3, hS4⟩ := hSw; go_simp; with_reducible rfl)
      simp only [Act.put, List.setIfInBounds_toArray, List.set_cons_zero, List.set_cons_succ]
      refine up_run (v := ?_) 4 108 [5, 6] rfl rfl (by kernel_rfl) (by kernel_rfl) (by kernel_rfl) (by kernel_rfl) (fun _ _ _ h => h) (by rfl) ?_ (by assumption) ?_
      rotate_left
      · (intro w hSw; (try dsimp only at hSw); obtain ⟨hS1, hS2, hS3, hS4⟩ := hSw; go_simp; with_reducible rfl)
      simp only [Act.put, List.setIfInBounds_toArray, List.set_cons_zero, List.set_cons_succ]
      refine up_one 5 (by kernel_rfl) rfl (fun K hK => ?_)
      go_simp
      refine (mul_any w3.drew _ _ _ _ _ _ (by exact NP3.out.below (Below.refl w3.heap.size w3).drew (Nat.le_refl _)) (by exact NZ3.out.below (Below.refl w3.heap.size w3).drew (Nat.le_refl _)) (by have := HJM.out; omega) (by omega)).mono ?_
      rintro e w5 ⟨v5, rfl, hv5, hb5'⟩
      obtain ⟨⟨zn, zO, zL, zC⟩, rfl⟩ := hv5.nm
      have hb5 : Below w3.heap.size w3 w5 := (Below.refl _ _).drew.trans (hb5'.mono (by simp))
      have e0 := (hb5.cell (p := ⟨PB, 0, none⟩) HP3.out.2).trans p0; have e1 := (hb5.cell (p := ⟨PB, 1, none⟩) HP3.out.2).trans p1
      have e2 := (hb5.cell (p := ⟨zb, zoff + j * 2, none⟩) lz3).trans c2; have e3 := (hb5.cell (p := ⟨zb, zoff + j * 2 + 1, none⟩) lz3).trans c3
      have HP5 := hide (HP3.out.later hb5); have HB5 := hide (HB3.out.trans (hb5.mono HB3.out.size)); have N5 := hide hv5
      have f0 := HP5.out.1.2.2.1; have f1 := HP5.out.1.2.2.2
      clear hv5 hb5' hb5
      go_wp2_with fail
      refine hK.out _ _ (fun _ => ⟨e0, e1, e2, e3⟩) ?_
      clear hK K
      try simp only [Act.put, List.setIfInBounds_toArray, List.set_cons_zero, List.set_cons_succ]
      refine up_one 6 (by kernel_rfl) rfl (fun K hK => ?_)
      go_simp
      refine hK.out _ _ (fun h => absurd h (by decide)) ?_
      clear hK K
      try simp only [Act.put, List.setIfInBounds_toArray, List.set_cons_zero, List.set_cons_succ]
      refine up_done (by kernel_rfl) ?_
      have HBV := hide (HI.out.below.trans (HB5.out.mono HI.out.below.size))
      have HPI : Hid (PI V ((w5.setCell ⟨PB, 0, none⟩ (.bool zn)).setCell ⟨PB, 1, none⟩ (.slice zO zL zC)) PB M (j + 1) ys) := ⟨(HBV.out.setCell (p := ⟨PB, 0, none⟩) HI.out.low (.bool zn)).setCell (p := ⟨PB, 1, none⟩) HI.out.low (.slice zO zL zC), HI.out.low, zn, zO, zL, zC, ⟨HP5.out.1.write _ _, by simpa using HP5.out.2⟩, by
        have h := (N5.out.wrote (v0 := .bool zn) (v1 := .slice zO zL zC) HP5.out.1 (by simp) (by simp)).mono (show 2 + j * M + M ≤ 2 + (j + 1) * M by rw [Nat.add_mul]; omega)
        rw [← HZ.out] at h
        exact h⟩
      clear e0 e1 e2 e3 f0 f1 p0 p1 c2 c3 HP5 HB5 N5 NP3 NZ3 HP3 HB3 HBV HVR lz lz3 HJM hHeld HI
      generalize (w5.setCell ⟨PB, 0, none⟩ (.bool zn)).setCell ⟨PB, 1, none⟩ (.slice zO zL zC) = w6 at *
      by_cases hj0 : j = 0
      · subst hj0
        go_wp2
        go_roundw
        case rel => exact ⟨1, by omega, by go_num, HPI⟩
        case measure => simp [intOf]; omega
      · obtain ⟨jp, hjp⟩ : ∃ jp, jp = j - 1 := ⟨_, rfl⟩
        have hj1 : (j : Int) - 1 = (jp : Int) := by omega
        have hj2 : IntKind.i64.wrap (jp : Int) = (jp : Int) := by rw [IntKind.wrap_i64]; omega
        have hj3 : ¬ ((j : Int) = 0) := by omega
        have hjpl : jp < ys.length := by omega
        have hjj : jp < j := by omega
        have HVR := hide (VD.out.below HPI.out.below (Nat.le_refl _))
        obtain ⟨lz2, yn, yo, yl, yc, g2, g3, na⟩ := HVR.out.at j hjl
        obtain ⟨-, bn, bo, bl, bc, h2, h3, nb⟩ := HVR.out.at jp hjpl
        have hy0 := HPOS.out jp hjpl
        have HGO := hide (HCH.out jp j hjj hjl)
        rw [HZ.out] at na HGO
        generalize ys.getD jp 0 = y at *
        have NZ2 := hide na; have NY2 := hide nb
        have hst := QuoGot.moved M M z y
        clear na nb hjp
        go_wp2_with fail
        rw [show ((j : Int) == 0) = false by rw [beq_eq_false_iff_ne]; exact hj3]
        refine region_inv (by kernel_rfl) (by kernel_rfl) (fun L a' w' => ∃ (c : Nat → Value) (G : Nat → Nat), a' = (⟨#[(.slice mo ms.length mcap), (.int .i64 (n : Int)), sl2, sl3, u4, sl5, sl6, sl7, .slice (some ⟨zb, zoff, none⟩) ys.length zcap, sl9, sl10, (.pointer (some ⟨PB, 0, none⟩)), .int .i64 (j : Int), c 14, c 15, c 18, sl16, sl17, sl18, sl19, sl20, sl21, sl22, sl23, sl24, sl25, sl26, sl27, sl28, sl29, sl30, sl31, sl32, sl33, sl34, sl35, sl36, sl37, sl38, sl39, sl40, sl41, sl42, sl43, sl44, sl45, sl46, sl47, sl48, sl49, sl50, sl51, sl52, sl53, sl54, sl55, sl56, sl57, sl58, sl59, sl60, sl61, sl62, sl63, sl64, sl65, sl66, sl67, sl68, sl69, sl70, sl71, sl72, sl73, sl74, sl75, sl76, sl77, sl78, sl79, sl80, sl81, sl82, sl83, sl84, sl85, sl86, sl87, sl88, sl89, sl90, .int .i64 (j : Int), .slice (some ⟨zb, zoff, none⟩) ys.length zcap, .int .i64 (ys.length : Int), .bool true, u95, u96, .slice (some ⟨zb, zoff, none⟩) ys.length zcap, .int .i64 (j : Int), .pointer (some ⟨zb, zoff + j * 2, none⟩), .agg #[.bool an, .slice ao al ac], v2, .int .i64 1, .bool false, .agg #[.bool pn, .slice pO pL pC], .slice (some ⟨zb, zoff, none⟩) ys.length zcap, .int .i64 (j : Int), .pointer (some ⟨zb, zoff + j * 2, none⟩), .agg #[.bool an, .slice ao al ac], .agg #[.bool zn, .slice zO zL zC], .int .i64 (j : Int), .bool false, c 10, c 0, c 1, c 2, c 3, c 4, c 5, c 6, c 7, c 8, c 9, c 11, c 12, c 13, u126, u127, u128, u129, u130, u131, u132, sl133, sl134, sl135, sl136, sl137, sl138, sl139, sl140, sl141, sl142, sl143, sl144, sl145, sl146, sl147, sl148, sl149, sl150, sl151, sl152, sl153, sl154, sl155, sl156, sl157, sl158, sl159, sl160, sl161, sl162, sl163, sl164, sl165, sl166, sl167, sl168, sl169, sl170, sl171, sl172, sl173, sl174, sl175, sl176, sl177, sl178, sl179, sl180, sl181, sl182, sl183, sl184, sl185, sl186, sl187, sl188, sl189, sl190, sl191, sl192, sl193, sl194, sl195, sl196, sl197, sl198, sl199, sl200, sl201, sl202, sl203, sl204, sl205, sl206, sl207, sl208, sl209, sl210, sl211, sl212], []⟩ : Act) ∧ Tags (D2 9) (FA2 9 [.slice (some ⟨zb, zoff, none⟩) ys.length zcap, .int .i64 (j : Int), .pointer (some ⟨zb, zoff + j * 2, none⟩), .agg #[.bool yn, .slice yo yl yc], .slice (some ⟨zb, zoff, none⟩) ys.length zcap, .int .i64 (j : Int), .int .i64 (jp : Int), .pointer (some ⟨zb, zoff + jp * 2, none⟩), .agg #[.bool bn, .slice bo bl bc]] (QuoGot M M z y) (w6).heap.size) (w6) L c w' G) ⟨fun i => List.getD [u113, u114, u115, u116, u117, u118, u119, u120, u121, u122, u112, u123, u124, u125, u13, u14, undef, undef, u15] i undef, fun _ => 0, rfl, Tags.start _ _ _⟩ ?_ ?_
        · rintro L a' w' i o ⟨c, G, rfl, R⟩ ho hn hdep K hK
          have hi : i < 19 := (Array.getElem?_eq_some_iff.1 ho).1
          rcases (by omega : i = 0 ∨ i = 1 ∨ i = 2 ∨ i = 3 ∨ i = 4 ∨ i = 5 ∨ i = 6 ∨ i = 7 ∨ i = 8 ∨ i = 9 ∨ i = 10 ∨ i = 11 ∨ i = 12 ∨ i = 13 ∨ i = 14 ∨ i = 15 ∨ i = 16 ∨ i = 17 ∨ i = 18) with rfl | rfl | rfl | rfl | rfl | rfl | rfl | rfl | rfl | rfl | rfl | rfl | rfl | rfl | rfl | rfl | rfl | rfl | rfl
          · obtain rfl := Option.some.inj ho
            have R' := R.plain hn (fun j hj => absurd hj (by simp [D2])) (FA2.keep hst) (v := (.slice (some ⟨zb, zoff, none⟩) ys.length zcap)) (show upd c 0 ((.slice (some ⟨zb, zoff, none⟩) ys.length zcap)) 0 = (.slice (some ⟨zb, zoff, none⟩) ys.length zcap) from upd_self _ _ _)
            clear R
            go_simp
            exact hK.out _ _ ⟨_, _, by simp [upd], R'⟩
          · obtain rfl := Option.some.inj ho
            have R' := R.plain hn (fun j hj => absurd hj (by simp [D2])) (FA2.keep hst) (v := (.int .i64 (j : Int))) (show upd c 1 ((.int .i64 (j : Int))) 1 = (.int .i64 (j : Int)) from upd_self _ _ _)
            clear R
            go_simp
            exact hK.out _ _ ⟨_, _, by simp [upd], R'⟩
          · obtain rfl := Option.some.inj ho
            have e0 : c 0 = (.slice (some ⟨zb, zoff, none⟩) ys.length zcap) := R.facts 0 (hdep ⟨0, .data⟩ (by simp) rfl)
            have e1 : c 1 = (.int .i64 (j : Int)) := R.facts 1 (hdep ⟨1, .data⟩ (by simp) rfl)
            have R' := R.plain hn (fun j hj => absurd hj (by simp [D2])) (FA2.keep hst) (v := (.pointer (some ⟨zb, zoff + j * 2, none⟩))) (show upd c 2 ((.pointer (some ⟨zb, zoff + j * 2, none⟩))) 2 = (.pointer (some ⟨zb, zoff + j * 2, none⟩)) from upd_self _ _ _)
            clear R
            rw [e0, e1]
            go_simp
            exact hK.out _ _ ⟨_, _, by simp [upd, e0, e1], R'⟩
          · obtain rfl := Option.some.inj ho
            have e2 : c 2 = (.pointer (some ⟨zb, zoff + j * 2, none⟩)) := R.facts 2 (hdep ⟨2, .data⟩ (by simp) rfl)
            have q0 := (R.below.cell (p := ⟨zb, zoff + j * 2, none⟩) lz2).trans g2
            have q1 := (R.below.cell (p := ⟨zb, zoff + j * 2 + 1, none⟩) lz2).trans g3
            have R' := R.plain hn (fun j hj => absurd hj (by simp [D2])) (FA2.keep hst) (v := (.agg #[.bool yn, .slice yo yl yc])) (show upd c 3 ((.agg #[.bool yn, .slice yo yl yc])) 3 = (.agg #[.bool yn, .slice yo yl yc]) from upd_self _ _ _)
            clear R
            rw [e2]
            go_simp
            exact hK.out _ _ ⟨_, _, by simp [upd, e2], R'⟩
          · obtain rfl := Option.some.inj ho
            have R' := R.plain hn (fun j hj => absurd hj (by simp [D2])) (FA2.keep hst) (v := (.slice (some ⟨zb, zoff, none⟩) ys.length zcap)) (show upd c 4 ((.slice (some ⟨zb, zoff, none⟩) ys.length zcap)) 4 = (.slice (some ⟨zb, zoff, none⟩) ys.length zcap) from upd_self _ _ _)
            clear R
            go_simp
            exact hK.out _ _ ⟨_, _, by simp [upd], R'⟩
          · obtain rfl := Option.some.inj ho
            have R' := R.plain hn (fun j hj => absurd hj (by simp [D2])) (FA2.keep hst) (v := (.int .i64 (j : Int))) (show upd c 5 ((.int .i64 (j : Int))) 5 = (.int .i64 (j : Int)) from upd_self _ _ _)
            clear R
            go_simp
            exact hK.out _ _ ⟨_, _, by simp [upd], R'⟩
          · obtain rfl := Option.some.inj ho
            have e5 : c 5 = (.int .i64 (j : Int)) := R.facts 5 (hdep ⟨5, .data⟩ (by simp) rfl)
            have R' := R.plain hn (fun j hj => absurd hj (by simp [D2])) (FA2.keep hst) (v := (.int .i64 (jp : Int))) (show upd c 6 ((.int .i64 (jp : Int))) 6 = (.int .i64 (jp : Int)) from upd_self _ _ _)
            clear R
            rw [e5]
            go_simp
            exact hK.out _ _ ⟨_, _, by simp [upd, e5], R'⟩
          · obtain rfl := Option.some.inj ho
            have e4 : c 4 = (.slice (some ⟨zb, zoff, none⟩) ys.length zcap) := R.facts 4 (hdep ⟨4, .data⟩ (by simp) rfl)
            have e6 : c 6 = (.int .i64 (jp : Int)) := R.facts 6 (hdep ⟨6, .data⟩ (by simp) rfl)
            have R' := R.plain hn (fun j hj => absurd hj (by simp [D2])) (FA2.keep hst) (v := (.pointer (some ⟨zb, zoff + jp * 2, none⟩))) (show upd c 7 ((.pointer (some ⟨zb, zoff + jp * 2, none⟩))) 7 = (.pointer (some ⟨zb, zoff + jp * 2, none⟩)) from upd_self _ _ _)
            clear R
            rw [e4, e6]
            go_simp
            exact hK.out _ _ ⟨_, _, by simp [upd, e4, e6], R'⟩
          · obtain rfl := Option.some.inj ho
            have e7 : c 7 = (.pointer (some ⟨zb, zoff + jp * 2, none⟩)) := R.facts 7 (hdep ⟨7, .data⟩ (by simp) rfl)
            have q0 := (R.below.cell (p := ⟨zb, zoff + jp * 2, none⟩) lz2).trans h2
            have q1 := (R.below.cell (p := ⟨zb, zoff + jp * 2 + 1, none⟩) lz2).trans h3
            have R' := R.plain hn (fun j hj => absurd hj (by simp [D2])) (FA2.keep hst) (v := (.agg #[.bool bn, .slice bo bl bc])) (show upd c 8 ((.agg #[.bool bn, .slice bo bl bc])) 8 = (.agg #[.bool bn, .slice bo bl bc]) from upd_self _ _ _)
            clear R
            rw [e7]
            go_simp
            exact hK.out _ _ ⟨_, _, by simp [upd, e7], R'⟩
          · obtain rfl := Option.some.inj ho
            have e3 : c 3 = (.agg #[.bool yn, .slice yo yl yc]) := R.facts 3 (hdep ⟨3, .data⟩ (by simp) rfl)
            have e8 : c 8 = (.agg #[.bool bn, .slice bo bl bc]) := R.facts 8 (hdep ⟨8, .data⟩ (by simp) rfl)
            rw [e3, e8]
            go_simp
            refine (div_any w' _ _ z y M M (NZ2.out.below R.below (Nat.le_refl _)) (NY2.out.below R.below (Nat.le_refl _)) (by omega) (by omega)).mono ?_
            rintro e wq ⟨vq, vr, s, t, rfl, m1, m2, m3, m4, hb⟩
            have R' := R.call hn (fun j hj => absurd hj (by simp [D2])) (FA2.keep hst) hb (v := .tuple #[vq, vr, .nilIface]) (show QuoGot M M z y wq (upd c 9 (.tuple #[vq, vr, .nilIface]) 9) from by rw [upd_self]; exact ⟨vq, vr, s, t, rfl, m1, m2, m3, m4⟩)
            clear m1 m2 m3 m4 hb
            clear R
            go_wp2_with fail
            exact hK.out _ _ ⟨_, _, by simp [upd, e3, e8], R'⟩
          · obtain rfl := Option.some.inj ho
            have R' := R.plain hn (fun j hj => by simp [D2] at hj; subst hj; exact hdep ⟨_, .data⟩ (by simp) rfl) (FA2.keep hst) (v := c 9) (show upd c 10 (c 9) 10 = upd c 10 (c 9) 9 from by rw [upd_self, upd_ne _ _ (by decide)])
            clear R
            go_simp
            exact hK.out _ _ ⟨_, _, by simp [upd], R'⟩
          · obtain rfl := Option.some.inj ho
            have hm := hdep ⟨10, .data⟩ (by simp) rfl
            have em : c 10 = c 9 := R.facts 10 hm
            obtain ⟨vq, vr, s, t, ec, nm1, nm2, -⟩ : (QuoGot M M z y) w' (c 9) := R.facts 9 (R.closed 10 hm 9 (by simp [D2]))
            rw [ec] at em
            have R' := R.plain hn (fun j hj => by simp [D2] at hj; subst hj; exact hdep ⟨_, .data⟩ (by simp) rfl) (FA2.keep hst) (v := vq) (show ∃ u1 u2 u3 : Value, upd c 11 vq 10 = .tuple #[u1, u2, u3] ∧ upd c 11 vq 11 = u1 from ⟨vq, vr, (.nilIface : Value), by rw [upd_ne _ _ (by decide)]; exact em, upd_self _ _ _⟩)
            clear R ec
            rw [em]
            go_simp
            exact hK.out _ _ ⟨_, _, by simp [upd, em], R'⟩
          · obtain rfl := Option.some.inj ho
            have hm := hdep ⟨10, .data⟩ (by simp) rfl
            have em : c 10 = c 9 := R.facts 10 hm
            obtain ⟨vq, vr, s, t, ec, nm1, nm2, -⟩ : (QuoGot M M z y) w' (c 9) := R.facts 9 (R.closed 10 hm 9 (by simp [D2]))
            rw [ec] at em
            have R' := R.plain hn (fun j hj => by simp [D2] at hj; subst hj; exact hdep ⟨_, .data⟩ (by simp) rfl) (FA2.keep hst) (v := vr) (show ∃ u1 u2 u3 : Value, upd c 12 vr 10 = .tuple #[u1, u2, u3] ∧ upd c 12 vr 12 = u2 from ⟨vq, vr, (.nilIface : Value), by rw [upd_ne _ _ (by decide)]; exact em, upd_self _ _ _⟩)
            clear R ec
            rw [em]
            go_simp
            exact hK.out _ _ ⟨_, _, by simp [upd, em], R'⟩
          · obtain rfl := Option.some.inj ho
            have hm := hdep ⟨10, .data⟩ (by simp) rfl
            have em : c 10 = c 9 := R.facts 10 hm
            obtain ⟨vq, vr, s, t, ec, nm1, nm2, -⟩ : (QuoGot M M z y) w' (c 9) := R.facts 9 (R.closed 10 hm 9 (by simp [D2]))
            rw [ec] at em
            have R' := R.plain hn (fun j hj => by simp [D2] at hj; subst hj; exact hdep ⟨_, .data⟩ (by simp) rfl) (FA2.keep hst) (v := (.nilIface : Value)) (show ∃ u1 u2 u3 : Value, upd c 13 (.nilIface : Value) 10 = .tuple #[u1, u2, u3] ∧ upd c 13 (.nilIface : Value) 13 = u3 from ⟨vq, vr, (.nilIface : Value), by rw [upd_ne _ _ (by decide)]; exact em, upd_self _ _ _⟩)
            clear R ec
            rw [em]
            go_simp
            exact hK.out _ _ ⟨_, _, by simp [upd, em], R'⟩
          · obtain rfl := Option.some.inj ho
            obtain ⟨G', R'⟩ := R.alloc hn (fun j hj => absurd hj (by simp [D2])) (FA2.keep hst) 16 26 (fun W' G' h => show Made W' G' _ 16 (upd c 14 (ptr w'.heap.size) 14) from by rw [upd_self]; exact h)
            clear R
            go_simp
            exact hK.out _ _ ⟨_, G', by simp [upd], R'⟩
          · obtain rfl := Option.some.inj ho
            obtain ⟨G', R'⟩ := R.alloc hn (fun j hj => absurd hj (by simp [D2])) (FA2.keep hst) 17 26 (fun W' G' h => show Made W' G' _ 17 (upd c 15 (ptr w'.heap.size) 15) from by rw [upd_self]; exact h)
            clear R
            go_simp
            exact hK.out _ _ ⟨_, G', by simp [upd], R'⟩
          · obtain rfl := Option.some.inj ho
            have hx := hdep ⟨11, .data⟩ (by simp) rfl
            have hm := R.closed 11 hx 10 (by simp [D2])
            have em : c 10 = c 9 := R.facts 10 hm
            obtain ⟨vq, vr, s, t, ec, nm1, nm2, -⟩ : (QuoGot M M z y) w' (c 9) := R.facts 9 (R.closed 10 hm 9 (by simp [D2]))
            obtain ⟨u1, u2, u3, em', ex⟩ : ∃ u1 u2 u3 : Value, c 10 = .tuple #[u1, u2, u3] ∧ c 11 = u1 := R.facts 11 hx
            rw [em, ec] at em'
            simp only [Value.tuple.injEq, Array.mk.injEq, List.cons.injEq, and_true] at em'
            obtain ⟨rfl, rfl, rfl⟩ := em'
            obtain ⟨s, hs⟩ := nm1.nm
            rw [hs] at ex
            obtain ⟨B, ea, hC, hB, hG, r, hb⟩ : Made w' G _ 16 (c 14) := R.facts 14 (hdep ⟨14, .data⟩ (by simp) rfl)
            have R' := R.store hn (fun j hj => by simp [D2] at hj; rcases hj with rfl | rfl <;> exact hdep ⟨_, .data⟩ (by simp) rfl) (FA2.keep hst) s hC hB hG hb (fun W' G' h => show ∃ r : Nm, upd c 16 undef 11 = r.v ∧ Stored W' G' _ 16 (upd c 16 undef 14) r from ⟨s, by rw [upd_ne _ _ (by decide)]; exact ex, by rw [upd_ne _ _ (by decide), ea]; exact h⟩)
            obtain ⟨b0, b1, b2, b3⟩ := hb
            obtain ⟨sn, so, sl, sc⟩ := s
            dsimp only at *
            clear R em ec
            rw [ea, ex]
            go_simp
            exact hK.out _ _ ⟨_, _, by simp [upd, ea, ex], R'⟩
          · obtain rfl := Option.some.inj ho
            have hx := hdep ⟨12, .data⟩ (by simp) rfl
            have hm := R.closed 12 hx 10 (by simp [D2])
            have em : c 10 = c 9 := R.facts 10 hm
            obtain ⟨vq, vr, s, t, ec, nm1, nm2, -⟩ : (QuoGot M M z y) w' (c 9) := R.facts 9 (R.closed 10 hm 9 (by simp [D2]))
            obtain ⟨u1, u2, u3, em', ex⟩ : ∃ u1 u2 u3 : Value, c 10 = .tuple #[u1, u2, u3] ∧ c 12 = u2 := R.facts 12 hx
            rw [em, ec] at em'
            simp only [Value.tuple.injEq, Array.mk.injEq, List.cons.injEq, and_true] at em'
            obtain ⟨rfl, rfl, rfl⟩ := em'
            obtain ⟨s, hs⟩ := nm2.nm
            rw [hs] at ex
            obtain ⟨B, ea, hC, hB, hG, r, hb⟩ : Made w' G _ 17 (c 15) := R.facts 15 (hdep ⟨15, .data⟩ (by simp) rfl)
            have R' := R.store hn (fun j hj => by simp [D2] at hj; rcases hj with rfl | rfl <;> exact hdep ⟨_, .data⟩ (by simp) rfl) (FA2.keep hst) s hC hB hG hb (fun W' G' h => show ∃ r : Nm, upd c 17 undef 12 = r.v ∧ Stored W' G' _ 17 (upd c 17 undef 15) r from ⟨s, by rw [upd_ne _ _ (by decide)]; exact ex, by rw [upd_ne _ _ (by decide), ea]; exact h⟩)
            obtain ⟨b0, b1, b2, b3⟩ := hb
            obtain ⟨sn, so, sl, sc⟩ := s
            dsimp only at *
            clear R em ec
            rw [ea, ex]
            go_simp
            exact hK.out _ _ ⟨_, _, by simp [upd, ea, ex], R'⟩
          · obtain rfl := Option.some.inj ho
            have R' := R.plain hn (fun j hj => by simp [D2] at hj; subst hj; exact hdep ⟨_, .data⟩ (by simp) rfl) (FA2.keep hst) (v := c 13) (show upd c 18 (c 13) 18 = upd c 18 (c 13) 13 from by rw [upd_self, upd_ne _ _ (by decide)])
            clear R
            go_simp
            exact hK.out _ _ ⟨_, _, by simp [upd], R'⟩
        · rintro L a' w0 ⟨cc, G, rfl, R⟩ hall
          obtain ⟨⟨sn, so, sl, sc⟩, ⟨tn, tO, tL, tC⟩, u3v, B1, B2, ⟨vq, vr, s, t, ec, -, N2', hps, hleft⟩, e11, e12, e15, l1', l2', s1, s2, d12, -, x2, hb1⟩ := R.fin2 (fun i hi => hall i hi)
          simp only [Value.tuple.injEq, Array.mk.injEq, List.cons.injEq, and_true] at ec
          obtain ⟨-, rfl, rfl⟩ := ec
          obtain ⟨pq, hpq⟩ := HGO.out
          have ht0 : t = 0 := by have := Left.exact hy0 hpq hps hleft; omega
          subst ht0
          have N2 := hide N2'
          have HB0 := hide hb1
          obtain ⟨pn, pO, pL, pC, hyp, hnp⟩ := HPI.out.p
          have HPI2 : Hid (PI V w0 PB M (j + 1) ys) := ⟨HPI.out.below.trans (hb1.mono HPI.out.below.size), HPI.out.low, pn, pO, pL, pC, hyp.later hb1, hnp.below hb1 (Nat.le_refl _)⟩
          obtain ⟨k0, k1', -, -⟩ := x2
          clear R hall hst N2' hps hleft l1' l2' d12 hb1 g2 g3 h2 h3 hpq HGO NZ2 NY2 hyp hnp HVR
          dsimp only at *
          rw [e11, e12, e15]
          clear e11 e12 e15
          go_wp2_with fail
          refine (zero_any _ _ 0 _ (by exact N2.out)).mono ?_
          rintro e wa ⟨rfl, hba⟩
          have HPI3 : Hid (PI V wa PB M (j + 1) ys) := by
            obtain ⟨pn, pO, pL, pC, hyp, hnp⟩ := HPI2.out.p
            exact ⟨HPI2.out.below.trans (hba.mono HPI2.out.below.size), HPI2.out.low, pn, pO, pL, pC, hyp.later hba, hnp.below hba (Nat.le_refl _)⟩
          clear hba k0 k1' N2 HPI2 HPI HB0
          go_wp2
          go_roundw
          case rel => exact ⟨j + 1, by omega, by go_num, HPI3⟩
          case measure => simp [intOf]; omega
    · obtain rfl : j = ys.length := by omega
      go_wp2_with fail
      go_meet
      case rel => exact HI.out
  case rest =>
  have hE := hcut
  apply_assumption
  obtain ⟨pn, pO, pL, pC, hyp, hnp⟩ := hE.p
  exact topSmith_S w _ mo zo mcap zcap PB n M _ pn pO pL pC ms ys (HBE.out.trans (hE.below.mono HBE.out.size)) HM.out HML.out hn1 hn4 hm1 hm4 hy4 hyn (VD.out.below hE.below (Nat.le_refl _)) hyp hnp HDET.out HPOS.out HCH.out HDV.out _ _ _ _ _ _ _ _ _ _ _ _ _ _ _ _ _ _ _ _ _ _ _ _ _ _ _ _ _ _ _ _ _ _ _ _ _ _ _ _ _ _ _ _ _ _ _ _ _ _ _ _ _ _ _ _ _ _ _ _ _ _ _ _ _ _ _ _ _ _ _ _ _ _ _ _ _ _ _ _ _ _ _ _ _ _ _ _ _ _ _ _ _ _ _ _ _ _ _ _ _ _ _ _ _ _ _ _ _ _ _ _ _ _ _ _ _ _ _ _ _ _ _ _ _ _ _ _ _ _ _ _ _ _ _ _ _ _ _ _ _ _ _ _ _ _ _ _ _ _ _ _ _ _ _ _ _ _ _ _ _ _ _ _ _ _ _ _ _ _ _ _ _ _ _ _ _ _ _ _ _ _ _ _ _ _ _ _ _ _ _ _ _ _ _ _ _ _ _ _ _ _ _ _ _ _ _ _ _

end Go.Proofs.YtmeefloajhffbaaDoor
