/- TopHermite: rows turned about. -/
import Derived.Test.YtjblidoilphifacDoorTurnL
import Derived.Test.YtjblidoilphifacDoorGrowV
import Derived.Test.YtjblidoilphifacDoorFormT
import Derived.Test.YtjblidoilphifacDoorSameT
import Derived.Test.YtjblidoilphifacDoorLightT
import Derived.Test.YtjblidoilphifacDoorTl
import Derived.Test.YtjblidoilphifacDoorVecX
namespace Go.Proofs.YtjblidoilphifacDoor
open Go.RowKit Limbs

set_option linter.unusedSimpArgs false in
set_option maxRecDepth 100000 in
set_option maxHeartbeats 6400000 in
theorem topHermite_D (w W : World) (mo : Option Addr) (mcap n a : Nat) (jv : Int) (vh : Value) (ms hs : List (List Int)) (p : Nat → Nat) (kn : Bool) (ko : Option Addr) (kl kc : Nat) (z : Int) (hbe : Below w.heap.size w W) (hM : MatN w (.slice mo ms.length mcap) ms 8) (hml : ∀ us ∈ ms, us.length = n) (hn1 : 1 ≤ n) (hn8 : n ≤ 8) (hm1 : 1 ≤ ms.length) (hm6 : ms.length ≤ 6) (hK : NumL w (.agg #[.bool kn, .slice ko kl kc]) z 3) (hkb : Box W w.heap.size (.bool kn) (.slice ko kl kc)) (hks : w.heap.size < W.heap.size) (hH : MatN W vh hs (n * 8 + 2)) (hF : FormL n hs p) (hA : Alikes n (InL hs) (InL ms)) (hhn : hs.length ≤ n) (hal : a < ms.length) (sl2 sl4 sl5 sl6 sl7 sl8 sl10 sl11 sl12 sl13 sl15 sl16 sl18 sl19 sl20 sl21 sl22 sl23 sl24 sl25 sl26 sl27 sl28 sl29 sl30 sl31 sl32 sl33 sl34 sl35 sl36 sl37 sl38 sl39 sl40 sl41 sl42 sl43 sl44 sl45 sl46 sl47 sl48 sl49 sl50 sl51 sl52 sl53 sl54 sl55 sl56 sl57 sl58 sl59 sl60 sl61 sl62 sl63 sl64 sl65 sl66 sl67 sl68 sl69 sl70 sl71 sl72 sl73 sl74 sl75 sl76 sl77 sl78 sl79 sl80 sl81 sl82 sl83 sl84 sl85 sl86 sl87 sl88 sl89 sl90 sl91 sl92 sl93 sl94 sl95 sl96 sl97 sl98 sl99 sl100 sl101 sl102 sl103 sl104 sl105 sl106 sl107 sl108 sl109 sl110 sl111 sl112 sl113 sl114 sl115 sl116 sl117 sl118 sl119 sl120 sl121 sl122 sl123 sl124 sl125 sl126 sl127 sl128 sl129 sl130 sl131 sl132 sl133 sl134 sl135 sl136 sl137 sl138 sl139 sl140 sl141 sl142 sl143 sl144 sl145 sl146 sl147 sl148 sl149 sl150 sl151 sl152 sl153 sl154 sl155 sl156 sl157 sl158 sl159 sl160 sl161 sl162 sl163 sl164 sl165 sl166 sl167 sl168 sl169 sl170 sl171 sl172 sl173 sl174 sl175 sl176 sl177 sl178 sl179 : Value) :
    (Code.tl (Code.tl (Code.tl (Code.tl (Code.tl (Code.tl (Code.tl (Code.tl (Code.tl (Code.tl (Code.tl ((Tryd.f4.body).getD .skip)))))))))))).wp Tryd.prog (bodyPost Tryd.prog Tryd.f4 (fun e w' => e = .returned (.bool true) ∧ Below w.heap.size w w')) ⟨#[(.slice mo ms.length mcap), (.int .i64 (n : Int)), sl2, (.int .i64 jv), sl4, sl5, sl6, sl7, sl8, (.pointer (some ⟨w.heap.size, 0, none⟩)), sl10, sl11, sl12, sl13, vh, sl15, sl16, (.int .i64 (a : Int)), sl18, sl19, sl20, sl21, sl22, sl23, sl24, sl25, sl26, sl27, sl28, sl29, sl30, sl31, sl32, sl33, sl34, sl35, sl36, sl37, sl38, sl39, sl40, sl41, sl42, sl43, sl44, sl45, sl46, sl47, sl48, sl49, sl50, sl51, sl52, sl53, sl54, sl55, sl56, sl57, sl58, sl59, sl60, sl61, sl62, sl63, sl64, sl65, sl66, sl67, sl68, sl69, sl70, sl71, sl72, sl73, sl74, sl75, sl76, sl77, sl78, sl79, sl80, sl81, sl82, sl83, sl84, sl85, sl86, sl87, sl88, sl89, sl90, sl91, sl92, sl93, sl94, sl95, sl96, sl97, sl98, sl99, sl100, sl101, sl102, sl103, sl104, sl105, sl106, sl107, sl108, sl109, sl110, sl111, sl112, sl113, sl114, sl115, sl116, sl117, sl118, sl119, sl120, sl121, sl122, sl123, sl124, sl125, sl126, sl127, sl128, sl129, sl130, sl131, sl132, sl133, sl134, sl135, sl136, sl137, sl138, sl139, sl140, sl141, sl142, sl143, sl144, sl145, sl146, sl147, sl148, sl149, sl150, sl151, sl152, sl153, sl154, sl155, sl156, sl157, sl158, sl159, sl160, sl161, sl162, sl163, sl164, sl165, sl166, sl167, sl168, sl169, sl170, sl171, sl172, sl173, sl174, sl175, sl176, sl177, sl178, sl179], []⟩ W := by
  simp only [Code.tl, Tryd.f4, Option.getD_some]
  obtain ⟨j0, hj, hy0, hy1, hy2⟩ := info_parts Tryd.infoVec
  have HJ := hide hj; have HY0 := hide hy0; have HY1 := hide hy1; have HY2 := hide hy2
  clear hj hy0 hy1 hy2
  have HM := hide hM; have HML := hide hml; have HK := hide hK; have HKB := hide hkb; have HH := hide hH; have HFO := hide hF; have HAL := hide hA; have HBE := hide hbe
  clear hM hml hK hkb hH hF hA hbe
  obtain ⟨ho, hcap, rfl, -, -⟩ := HH.out
  obtain ⟨b, eb, hbl⟩ := place jv ms.length hm1
  obtain ⟨mb, moff, _, e, lmw, -⟩ := HM.out.at 0 (by omega)
  simp only [Value.slice.injEq, true_and] at e
  obtain ⟨rfl, rfl⟩ := e
  have lm : mb < W.heap.size := Nat.lt_of_lt_of_le lmw HBE.out.size
  go_wp2
  clear eb
  go_loopw [19, 20] (fun t x wr => ∃ (d : Nat) (qs : List (Value × List Int)), d ≤ ms.length ∧ x = .int .i64 ((ms.length : Int) - 1 - (d : Int)) ∧ Hid (GrowV wr W.heap.size t qs 13) ∧ Hid (qs.map (·.2) = tList ms a b z d) ∧ Hid (Below W.heap.size W wr)) (fun _ x _ => (intOf x + 1).toNat)
  case atStart => exact ⟨0, [], Nat.zero_le _, by go_num, hide (GrowV.nil _ _ _), hide rfl, hide (Below.refl _ _)⟩
  case round =>
    obtain ⟨d, qs, hd, rfl, HG, HQ, HB⟩ := hrel
    have HQL : Hid (qs.length = d) := by
      have := congrArg List.length HQ.out
      rw [List.length_map, tList_len] at this
      exact this
    have hbs0 := HB.out.size
    have lmr : mb < wr.heap.size := Nat.lt_of_lt_of_le lm hbs0
    by_cases hdl : d < ms.length
    · obtain ⟨q, hqd⟩ : ∃ q, q = ms.length - 1 - d := ⟨_, rfl⟩
      have hqc : (ms.length : Int) - 1 - (d : Int) = (q : Int) := by omega
      have hql : q < ms.length := by omega
      rw [hqc]
      have HQD := hide hqd; have HQC := hide hqc
      clear hqd hqc
      have hbw := HBE.out.trans (HB.out.mono HBE.out.size)
      obtain ⟨_, _, _, e, -, ru, cu, hu⟩ := (HM.out.below hbw (Nat.le_refl _)).at q hql
      simp only [Value.slice.injEq, Option.some.injEq, Addr.mk.injEq, and_true, true_and] at e
      obtain ⟨⟨rfl, rfl⟩, rfl⟩ := e
      have hul := HML.out _ (List.getElem_mem hql)
      have HSR : Hid (sRow ms b q = if q = b then (ms[q].map (1 * ·)).map (-1 * ·) else ms[q].map (1 * ·)) := by
        show _ = _
        unfold sRow
        rw [getD_row hql]
      generalize ms[q] = us at *
      obtain ⟨ub, uoff, ucap, rfl⟩ := hu.form (by omega)
      have HU := hide hu
      obtain ⟨v1, hv1⟩ : ∃ v1, us.map (1 * ·) = v1 := ⟨_, rfl⟩
      have hv1l : v1.length = us.length := by rw [← hv1, List.length_map]
      have HS1 : Hid (∀ w' vk uv, NumL w' vk 1 2 → VecN w' uv us 8 → Calls Tryd.prog 23 #[vk, uv] w' fun e w'' => VecPost w' v1 10 e w'') := fun w' vk uv hk hu => by
        rw [← hv1]; exact scaleV_any w' vk uv 1 us 2 8 hk hu (by omega) (by decide) (by decide)
      rw [hv1] at HSR
      have HUL := hide hul; have HV1L := hide hv1l
      clear hv1 hu hul hv1l hbw
      go_wp2_with fail
      go_region_held3 (fun w' => w'.cell? ⟨mb, moff + q, none⟩ = some (.slice (some ⟨ub, uoff, none⟩) us.length ucap)) (go_keep)
        (first
          | (go_at_call 8; refine (of_any _ 1 (by decide) (by decide)).mono ?_; rintro e w1 ⟨r1, rfl, hr1, hb1⟩; have hb1' : Below wr.heap.size wr w1 := ((Below.refl wr.heap.size wr).drew).trans hb1; have HR1 := hide hr1; have p0 := (hb1'.cell (p := ⟨mb, moff + q, none⟩) lmr).trans cu; have HB1 := hide hb1'; have l1 : mb < w1.heap.size := Nat.lt_of_lt_of_le lmr hb1'.size; clear hb1 hb1' hr1)
          | (go_at_call 23; refine (HS1.out _ _ _ (by exact HR1.out) (by exact HU.out.below HB1.out (Nat.le_refl _))).mono ?_; rintro e w2 ⟨P, rfl, ho2⟩; have p1 := (ho2.below.cell (p := ⟨mb, moff + q, none⟩) l1).trans p0; have HO2 := hide ho2; clear ho2))
      have HB2 := hide (HB.out.trans ((HB1.out.trans (HO2.out.below.mono HB1.out.size)).mono HB.out.size))
      have HG2 := hide (HG.out.later (HB1.out.trans (HO2.out.below.mono HB1.out.size)))
      have HV2 := hide (HO2.out.vec)
      clear p0 p1 cu HO2 HB1 HR1 HS1 HB HG HU l1 lmr
      by_cases hqb : q = b
      · subst hqb
        have HNP : Hid (tRow ms a q z q = sRow ms q q) := if_neg (fun h => h.2 h.1.symm)
        have hne : ((q : Int) == (a : Int)) = true → ((a : Int) != (q : Int)) = false := fun h => by rw [beq_iff_eq] at h; rw [bne_eq_false_iff_eq]; omega
        obtain ⟨v2, hv2⟩ : ∃ v2, v1.map (-1 * ·) = v2 := ⟨_, rfl⟩
        have HS2 : Hid (∀ w' vk uv, NumL w' vk (-1) 2 → VecN w' uv v1 10 → Calls Tryd.prog 23 #[vk, uv] w' fun e w'' => VecPost w' v2 12 e w'') := fun w' vk uv hk hu => by
          rw [← hv2]; exact scaleV_any w' vk uv (-1) v1 2 10 hk hu (by have := HUL.out; have := HV1L.out; omega) (by decide) (by decide)
        have HT : Hid (tRow ms a q z (ms.length - 1 - d) = v2) := by
          show _ = _
          rw [← HQD.out, HNP.out, HSR.out, if_pos rfl, hv2]
        clear hv2 HNP HSR
        go_wp2_with fail
        refine (of_any w2 (-1) (by decide) (by decide)).mono ?_
        rintro e w2b ⟨r2, rfl, hr2, hb2⟩
        have HR2 := hide hr2; have HB2b := hide hb2
        clear hr2 hb2
        go_wp2_with fail
        refine (HS2.out w2b _ _ HR2.out (by exact HV2.out.below HB2b.out (Nat.le_refl _))).mono ?_
        rintro e w3 ⟨P3, rfl, ho3⟩
        have HV3 := hide (ho3.vec.mono (show 12 ≤ 13 by decide))
        have HG3 := hide ((HG2.out.later HB2b.out).later ho3.below)
        have HB3 := hide (HB2.out.trans ((HB2b.out.trans (ho3.below.mono HB2b.out.size)).mono HB2.out.size))
        clear ho3 HS2 HV2 HG2 HB2 HB2b HR2
        by_cases hqa : q = a
        · subst hqa
          have hown := HG3.out.own
          have hall := HG3.out.all.later ((Below.refl _ _).alloc (Nat.le_refl _) (.cells #[.slice (some ⟨P3, 0, none⟩) v2.length v2.length] 26))
          have hbs := HB3.out.size
          have hj := HJ.out; have hy0 := HY0.out; have hy1 := HY1.out; have hy2 := HY2.out
          go_wp2_with (at_builtin; refine wpList_append_sl rfl _ _ 43 rfl W.heap.size 26 j0 24 (by kernel_rfl) hj hy0 hy1 hy2 u19 qs.length (qs.map (·.1)) rfl (hown.alloc _) hall ⟨w3.heap.size, 0, none⟩ 1 (some ⟨P3, 0, none⟩) v2.length v2.length rfl (World.news_of_block (heap_alloc_new w3 _)) (by unfold maxLen; have := HQL.out; omega) (by have := HQL.out; omega) (by simp; omega) ?_)
          intro g cap' w5 hown5 hgrow5 hall5
          have HG5 := hide (growV_snoc (HG3.out.later ((Below.refl _ _).alloc (Nat.le_refl _) _)) (HV3.out.below ((Below.refl _ _).alloc (Nat.le_refl _) _) (Nat.le_refl _)) hown5 hgrow5 hall5)
          have HB5 := hide ((HB3.out.alloc HB3.out.size _).trans (grownV_below (HG3.out.later ((Below.refl _ _).alloc (Nat.le_refl _) _)) (by simp; omega) hgrow5))
          have HQ5 : Hid ((qs ++ [(Value.slice (some ⟨P3, 0, none⟩) v2.length v2.length, v2)]).map (·.2) = tList ms q q z (d + 1)) := by
            show _ = _
            rw [List.map_append, HQ.out]
            show _ ++ [v2] = _ ++ [tRow ms q q z (ms.length - 1 - d)]
            rw [HT.out]
          clear hown hall hown5 hgrow5 hall5 hj hy0 hy1 hy2 HG3 HV3 HB3 HQ HT
          go_wp2
          go_roundw
          case rel => exact ⟨d + 1, _, by omega, by have := HQC.out; go_num, HG5, HQ5, HB5⟩
          case measure => (have := HQC.out; simp [intOf] <;> omega)
        · have h1 : ((q : Int) == (a : Int)) = false := by rw [beq_eq_false_iff_ne]; omega
          clear hne
          have hown := HG3.out.own
          have hall := HG3.out.all.later ((Below.refl _ _).alloc (Nat.le_refl _) (.cells #[.slice (some ⟨P3, 0, none⟩) v2.length v2.length] 26))
          have hbs := HB3.out.size
          have hj := HJ.out; have hy0 := HY0.out; have hy1 := HY1.out; have hy2 := HY2.out
          go_wp2_with (at_builtin; refine wpList_append_sl rfl _ _ 43 rfl W.heap.size 26 j0 24 (by kernel_rfl) hj hy0 hy1 hy2 u19 qs.length (qs.map (·.1)) rfl (hown.alloc _) hall ⟨w3.heap.size, 0, none⟩ 1 (some ⟨P3, 0, none⟩) v2.length v2.length rfl (World.news_of_block (heap_alloc_new w3 _)) (by unfold maxLen; have := HQL.out; omega) (by have := HQL.out; omega) (by simp; omega) ?_)
          intro g cap' w5 hown5 hgrow5 hall5
          have HG5 := hide (growV_snoc (HG3.out.later ((Below.refl _ _).alloc (Nat.le_refl _) _)) (HV3.out.below ((Below.refl _ _).alloc (Nat.le_refl _) _) (Nat.le_refl _)) hown5 hgrow5 hall5)
          have HB5 := hide ((HB3.out.alloc HB3.out.size _).trans (grownV_below (HG3.out.later ((Below.refl _ _).alloc (Nat.le_refl _) _)) (by simp; omega) hgrow5))
          have HQ5 : Hid ((qs ++ [(Value.slice (some ⟨P3, 0, none⟩) v2.length v2.length, v2)]).map (·.2) = tList ms a q z (d + 1)) := by
            show _ = _
            rw [List.map_append, HQ.out]
            show _ ++ [v2] = _ ++ [tRow ms a q z (ms.length - 1 - d)]
            rw [HT.out]
          clear hown hall hown5 hgrow5 hall5 hj hy0 hy1 hy2 HG3 HV3 HB3 HQ HT
          go_wp2
          go_roundw
          case rel => exact ⟨d + 1, _, by omega, by have := HQC.out; go_num, HG5, HQ5, HB5⟩
          case measure => (have := HQC.out; simp [intOf] <;> omega)
      · have hqb1 : ((q : Int) == (b : Int)) = false := by rw [beq_eq_false_iff_ne]; omega
        rw [if_neg hqb] at HSR
        by_cases hqa : q = a
        · subst hqa
          have hab : ((q : Int) != (b : Int)) = true := by rw [bne_iff_ne]; omega
          have hbw2 := HBE.out.trans (HB2.out.mono HBE.out.size)
          obtain ⟨_, _, _, e, -, rb, cb, hb⟩ := (HM.out.below hbw2 (Nat.le_refl _)).at b hbl
          simp only [Value.slice.injEq, Option.some.injEq, Addr.mk.injEq, and_true, true_and] at e
          obtain ⟨⟨rfl, rfl⟩, rfl⟩ := e
          have hbl2 := HML.out _ (List.getElem_mem hbl)
          have HTR : Hid (tRow ms q b z q = List.zipWith (fun x y => x + y) v1 (ms[b].map (z * ·))) := by
            show _ = _
            unfold tRow
            rw [if_pos ⟨rfl, hqb⟩, HSR.out, getD_row hbl]
          generalize ms[b] = bs at *
          obtain ⟨bb, boff, bcap, rfl⟩ := hb.form (by omega)
          have HBV := hide hb
          obtain ⟨v2, hv2⟩ : ∃ v2, bs.map (z * ·) = v2 := ⟨_, rfl⟩
          have hv2l : v2.length = bs.length := by rw [← hv2, List.length_map]
          obtain ⟨v3, hv3⟩ : ∃ v3, List.zipWith (fun x y => x + y) v1 v2 = v3 := ⟨_, rfl⟩
          have h12 : v1.length = v2.length := by have := HUL.out; have := HV1L.out; omega
          have hv3l : v3.length = v1.length := by rw [← hv3]; exact zip_len _ _ _ h12
          have HS2 : Hid (∀ w' vk uv, NumL w' vk z 3 → VecN w' uv bs 8 → Calls Tryd.prog 23 #[vk, uv] w' fun e w'' => VecPost w' v2 11 e w'') := fun w' vk uv hk hu => by
            rw [← hv2]; exact scaleV_any w' vk uv z bs 3 8 hk hu (by omega) (by decide) (by decide)
          have HAD : Hid (∀ w' va vb, VecN w' va v1 12 → VecN w' vb v2 12 → Calls Tryd.prog 24 #[va, vb] w' fun e w'' => ∃ P, e = .returned (.tuple #[.slice (some ⟨P, 0, none⟩) v3.length v3.length, .nilIface]) ∧ VecO w' w'' P v3 13) := fun w' va vb h1 h2 => by
            rw [hv3l, ← hv3]; exact addV_any w' va vb v1 v2 12 h1 h2 h12 (by have := HUL.out; have := HV1L.out; omega) (by decide)
          have HT : Hid (tRow ms q b z (ms.length - 1 - d) = v3) := by
            show _ = _
            rw [← HQD.out, HTR.out, hv2, hv3]
          have kb := HKB.out.later (HB2.out) hks
          obtain ⟨k0, k1, -, -⟩ := kb
          have hks2 : w.heap.size < w2.heap.size := Nat.lt_of_lt_of_le hks HB2.out.size
          have lm2 : mb < w2.heap.size := Nat.lt_of_lt_of_le lm HB2.out.size
          have HK2 := hide (HK.out.below hbw2 (Nat.le_refl _))
          clear hv2 hv3 h12 hv2l hv3l hb hbl2 hbw2 HTR HSR
          go_wp2_with fail
          go_region_held3 (fun w' => w'.cell? ⟨w.heap.size, 0, none⟩ = some (.bool kn) ∧ w'.cell? ⟨w.heap.size, 1, none⟩ = some (.slice ko kl kc) ∧ w'.cell? ⟨mb, moff + b, none⟩ = some (.slice (some ⟨bb, boff, none⟩) bs.length bcap)) (go_keep)
            (first
              | (go_at_call 23; refine (HS2.out _ _ _ (by exact HK2.out) (by exact HBV.out)).mono ?_; rintro e w2b ⟨P2, rfl, ho2⟩; have hb2 : Below w2.heap.size w2 w2b := ((Below.refl w2.heap.size w2).drew).trans ho2.below; have p0 := (hb2.cell (p := ⟨w.heap.size, 0, none⟩) hks2).trans k0; have p1 := (hb2.cell (p := ⟨w.heap.size, 1, none⟩) hks2).trans k1; have p2 := (hb2.cell (p := ⟨mb, moff + b, none⟩) lm2).trans cb; have HO2 := hide ho2; have HB2b := hide hb2; have hs2b := hb2.size; clear ho2 hb2)
              | (go_at_call 24; refine (HAD.out _ _ _ (by exact (HV2.out.mono (by decide)).below HB2b.out (Nat.le_refl _)) (by exact HO2.out.vec.mono (by decide))).mono ?_; rintro e w3 ⟨P3, rfl, ho3⟩; have q0 := (ho3.below.cell (p := ⟨w.heap.size, 0, none⟩) (by show w.heap.size < w2b.heap.size; omega)).trans p0; have q1 := (ho3.below.cell (p := ⟨w.heap.size, 1, none⟩) (by show w.heap.size < w2b.heap.size; omega)).trans p1; have q2 := (ho3.below.cell (p := ⟨mb, moff + b, none⟩) (by show mb < w2b.heap.size; omega)).trans p2; have HO3 := hide ho3; clear ho3))
          have HV3 := hide HO3.out.vec
          have HG3 := hide ((HG2.out.later HB2b.out).later HO3.out.below)
          have HB3 := hide (HB2.out.trans ((HB2b.out.trans (HO3.out.below.mono HB2b.out.size)).mono HB2.out.size))
          clear HS2 HAD HV2 HG2 HB2 HB2b HO2 HO3 p0 p1 p2 q0 q1 q2 k0 k1 cb HBV HK2
          have hown := HG3.out.own
          have hall := HG3.out.all.later ((Below.refl _ _).alloc (Nat.le_refl _) (.cells #[.slice (some ⟨P3, 0, none⟩) v3.length v3.length] 26))
          have hbs := HB3.out.size
          have hj := HJ.out; have hy0 := HY0.out; have hy1 := HY1.out; have hy2 := HY2.out
          go_wp2_with (at_builtin; refine wpList_append_sl rfl _ _ 43 rfl W.heap.size 26 j0 24 (by kernel_rfl) hj hy0 hy1 hy2 u19 qs.length (qs.map (·.1)) rfl (hown.alloc _) hall ⟨w3.heap.size, 0, none⟩ 1 (some ⟨P3, 0, none⟩) v3.length v3.length rfl (World.news_of_block (heap_alloc_new w3 _)) (by unfold maxLen; have := HQL.out; omega) (by have := HQL.out; omega) (by simp; omega) ?_)
          intro g cap' w5 hown5 hgrow5 hall5
          have HG5 := hide (growV_snoc (HG3.out.later ((Below.refl _ _).alloc (Nat.le_refl _) _)) (HV3.out.below ((Below.refl _ _).alloc (Nat.le_refl _) _) (Nat.le_refl _)) hown5 hgrow5 hall5)
          have HB5 := hide ((HB3.out.alloc HB3.out.size _).trans (grownV_below (HG3.out.later ((Below.refl _ _).alloc (Nat.le_refl _) _)) (by simp; omega) hgrow5))
          have HQ5 : Hid ((qs ++ [(Value.slice (some ⟨P3, 0, none⟩) v3.length v3.length, v3)]).map (·.2) = tList ms q b z (d + 1)) := by
            show _ = _
            rw [List.map_append, HQ.out]
            show _ ++ [v3] = _ ++ [tRow ms q b z (ms.length - 1 - d)]
            rw [HT.out]
          clear hown hall hown5 hgrow5 hall5 hj hy0 hy1 hy2 HG3 HV3 HB3 HQ HT
          go_wp2
          go_roundw
          case rel => exact ⟨d + 1, _, by omega, by have := HQC.out; go_num, HG5, HQ5, HB5⟩
          case measure => (have := HQC.out; simp [intOf] <;> omega)
        · have hqa1 : ((q : Int) == (a : Int)) = false := by rw [beq_eq_false_iff_ne]; omega
          have HT : Hid (tRow ms a b z (ms.length - 1 - d) = v1) := by
            show _ = _
            rw [← HQD.out]
            unfold tRow
            rw [if_neg (fun h => hqa h.1), HSR.out]
          have HV3 := hide (HV2.out.mono (show 10 ≤ 13 by decide))
          have HG3 := HG2
          have HB3 := HB2
          clear HSR HV2 HG2 HB2
          have hown := HG3.out.own
          have hall := HG3.out.all.later ((Below.refl _ _).alloc (Nat.le_refl _) (.cells #[.slice (some ⟨P, 0, none⟩) v1.length v1.length] 26))
          have hbs := HB3.out.size
          have hj := HJ.out; have hy0 := HY0.out; have hy1 := HY1.out; have hy2 := HY2.out
          go_wp2_with (at_builtin; refine wpList_append_sl rfl _ _ 43 rfl W.heap.size 26 j0 24 (by kernel_rfl) hj hy0 hy1 hy2 u19 qs.length (qs.map (·.1)) rfl (hown.alloc _) hall ⟨w2.heap.size, 0, none⟩ 1 (some ⟨P, 0, none⟩) v1.length v1.length rfl (World.news_of_block (heap_alloc_new w2 _)) (by unfold maxLen; have := HQL.out; omega) (by have := HQL.out; omega) (by simp; omega) ?_)
          intro g cap' w5 hown5 hgrow5 hall5
          have HG5 := hide (growV_snoc (HG3.out.later ((Below.refl _ _).alloc (Nat.le_refl _) _)) (HV3.out.below ((Below.refl _ _).alloc (Nat.le_refl _) _) (Nat.le_refl _)) hown5 hgrow5 hall5)
          have HB5 := hide ((HB3.out.alloc HB3.out.size _).trans (grownV_below (HG3.out.later ((Below.refl _ _).alloc (Nat.le_refl _) _)) (by simp; omega) hgrow5))
          have HQ5 : Hid ((qs ++ [(Value.slice (some ⟨P, 0, none⟩) v1.length v1.length, v1)]).map (·.2) = tList ms a b z (d + 1)) := by
            show _ = _
            rw [List.map_append, HQ.out]
            show _ ++ [v1] = _ ++ [tRow ms a b z (ms.length - 1 - d)]
            rw [HT.out]
          clear hown hall hown5 hgrow5 hall5 hj hy0 hy1 hy2 HG3 HV3 HB3 HQ HT
          go_wp2
          go_roundw
          case rel => exact ⟨d + 1, _, by omega, by have := HQC.out; go_num, HG5, HQ5, HB5⟩
          case measure => (have := HQC.out; simp [intOf] <;> omega)
    · obtain rfl : d = ms.length := by omega
      rw [show ((ms.length : Int) - 1 - (ms.length : Int)) = -1 by omega]
      have hbw := HBE.out.trans (HB.out.mono HBE.out.size)
      obtain ⟨_, _, _, e, -, ru, cu, hu⟩ := (HM.out.below hbw (Nat.le_refl _)).at a hal
      simp only [Value.slice.injEq, Option.some.injEq, Addr.mk.injEq, and_true, true_and] at e
      obtain ⟨⟨rfl, rfl⟩, rfl⟩ := e
      have hul := HML.out _ (List.getElem_mem hal)
      have HGD : Hid (ms.getD a [] = ms[a]) := getD_row hal
      generalize ms[a] = us at *
      obtain ⟨ub, uoff, ucap, rfl⟩ := hu.form (by omega)
      have HU := hide hu
      have hown := HG.out.own
      have hall := HG.out.all.later ((Below.refl _ _).alloc (Nat.le_refl _) (.cells #[.slice (some ⟨ub, uoff, none⟩) us.length ucap] 26))
      have hj := HJ.out; have hy0 := HY0.out; have hy1 := HY1.out; have hy2 := HY2.out
      have HBW := hide hbw; have HUL := hide hul
      clear hu hbw hul
      go_wp2_with (at_builtin; refine wpList_append_sl rfl _ _ 43 rfl W.heap.size 26 j0 24 (by kernel_rfl) hj hy0 hy1 hy2 u19 qs.length (qs.map (·.1)) rfl (hown.alloc _) hall ⟨wr.heap.size, 0, none⟩ 1 (some ⟨ub, uoff, none⟩) us.length ucap rfl (World.news_of_block (heap_alloc_new wr _)) (by unfold maxLen; have := HQL.out; omega) (by have := HQL.out; omega) (by simp; omega) ?_)
      intro g cap' w5 hown5 hgrow5 hall5
      have HG5 := hide (growV_snoc (HG.out.later ((Below.refl _ _).alloc (Nat.le_refl _) _)) ((HU.out.mono (show 8 ≤ 13 by decide)).below ((Below.refl _ _).alloc (Nat.le_refl _) _) (Nat.le_refl _)) hown5 hgrow5 hall5)
      have HB5 := hide ((HB.out.alloc HB.out.size _).trans (grownV_below (HG.out.later ((Below.refl _ _).alloc (Nat.le_refl _) _)) (by simp; omega) hgrow5))
      have HMT : Hid (MatN w5 (.slice (some ⟨g, 0, none⟩) (qs.length + 1) cap') (tList ms a b z ms.length ++ [ms.getD a []]) 13) := by
        have := HG5.out.mat
        rw [List.map_append, HQ.out] at this
        rw [HGD.out]
        exact this
      have HHE := hide (hermite_any w5 _ _ n 13 HMT.out (turned_len HML.out z hal hbl) hn1 hn8 (by rw [List.length_append, tList_len]; simp; omega) (nb_ok n (by omega)).2.2)
      have HTA := hide (turned_alike HML.out z hal hbl)
      have HB5w := hide (HBE.out.trans (HB5.out.mono HBE.out.size))
      clear hown hall hown5 hgrow5 hall5 hj hy0 hy1 hy2 HG HG5 HB HQ HQL HU HBW HMT cu
      go_wp2_with fail
      refine HHE.out.mono ?_
      rintro e w6 ⟨u6, fs, p6, rfl, h1, h2, h3, h4, h5⟩
      obtain rfl : fs = hs := formL_one h4 HFO.out (h5.trans (HTA.out.trans HAL.out.symm))
      have hlr := h4.len
      have HSM := hide (same_any w6 u6 _ fs fs _ _ h1 ((HH.out.below HB5.out (Nat.le_refl _)).below h3 (Nat.le_refl _)) (by omega) (fun zs hz => by rw [hlr zs hz]; omega) true (by simp))
      have HB6 := hide (HB5w.out.trans (h3.mono HB5w.out.size))
      obtain ⟨o6, c6, rfl, -, -⟩ := h1
      clear h2 h3 h4 h5 hlr HHE HTA HB5 HB5w
      go_wp2_with fail
      refine HSM.out.mono ?_
      rintro e w7 ⟨rfl, hb7⟩
      have HB7 := hide (HB6.out.trans (hb7.mono HB6.out.size))
      clear hb7 HSM HB6
      go_wp2
      go_ret
      exact ⟨rfl, HB7.out⟩

end Go.Proofs.YtjblidoilphifacDoor
