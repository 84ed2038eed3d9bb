/- TopDet: two rows change places, one is put to another one. -/
import Derived.Test.YtmeefloajhffbaaDoorAnd
import Derived.Test.YtmeefloajhffbaaDoorTurnL
import Derived.Deep.Cut
import Derived.Deep.CutRange
namespace Go.Proofs.YtmeefloajhffbaaDoor
open Go.RowKit Limbs

theorem zipA_getD (xs ys : List Int) (j : Nat) (h1 : j < xs.length) (h2 : j < ys.length) : (List.zipWith (fun x y => x + y) xs ys).getD j 0 = xs.getD j 0 + ys.getD j 0 := by
  simp [List.getD_eq_getElem?_getD, List.getElem?_zipWith, List.getElem?_eq_getElem h1, List.getElem?_eq_getElem h2]

theorem map_getD0' (xs : List Int) (z : Int) (j : Nat) (h1 : j < xs.length) : (xs.map (z * ·)).getD j 0 = z * xs.getD j 0 := by
  simp [List.getD_eq_getElem?_getD, List.getElem?_eq_getElem h1]

set_option linter.unusedSimpArgs false in
set_option maxRecDepth 100000 in
set_option maxHeartbeats 6400000 in
theorem topDet_E (w W : World) (mo : Option Addr) (mcap DB nd : Nat) (iv jv : Int) (dn : Bool) (dO : Option Addr) (dL dC : Nat) (kn : Bool) (ko : Option Addr) (kl kc : Nat) (z : Int) (ms : List (List Int)) (hbe : Below w.heap.size w W) (hM : MatN w (.slice mo ms.length mcap) ms 8) (hml : ∀ us ∈ ms, us.length = ms.length) (hn1 : 1 ≤ ms.length) (hn6 : ms.length ≤ 6) (hK : NumL w (.agg #[.bool kn, .slice ko kl kc]) z 3) (hkb : BoxL W w.heap.size (.bool kn) (.slice ko kl kc)) (hD : BoxL W DB (.bool dn) (.slice dO dL dC)) (hdn : NumL W (.agg #[.bool dn, .slice dO dL dC]) (det ms.length (ent ms)) nd) (hnd : nd ≤ 1000) (sl3 sl4 sl5 sl6 sl8 sl9 sl10 sl12 sl14 sl15 sl16 sl17 sl18 sl19 sl20 sl21 sl22 sl23 sl24 sl25 sl26 sl27 sl28 sl29 sl30 sl31 sl32 sl33 sl34 sl35 sl36 sl37 sl38 sl39 sl40 sl41 sl42 sl43 sl44 sl45 sl46 sl47 sl48 sl49 sl50 sl51 sl52 sl53 sl54 sl55 sl56 sl57 sl58 sl59 sl60 sl61 sl62 sl63 sl64 sl65 sl66 sl67 sl68 sl69 sl70 sl71 sl72 sl73 sl74 sl75 sl76 sl77 sl78 sl79 sl80 sl81 sl82 sl83 sl84 sl85 sl86 sl87 sl88 sl89 sl90 sl91 sl92 sl93 sl94 sl95 sl96 sl97 sl98 sl99 sl100 sl101 sl102 sl103 sl104 sl105 sl106 sl107 sl108 sl109 sl110 sl111 sl112 sl113 sl114 sl115 sl116 sl117 sl118 sl119 sl120 sl121 sl122 sl123 sl124 sl125 sl126 sl127 sl128 sl129 sl130 sl131 sl132 sl133 sl134 sl135 sl136 sl137 sl138 sl139 sl140 sl141 sl142 sl143 sl144 sl145 sl146 sl147 sl148 sl149 sl150 sl151 sl152 sl153 sl154 sl155 sl156 sl157 sl158 sl159 sl160 sl161 sl162 sl163 sl164 sl165 sl166 sl167 sl168 sl169 sl170 sl171 sl172 sl173 sl174 sl175 sl176 sl177 : Value) :
    (Code.tl (Code.tl (Code.tl (Code.tl (Code.tl (Code.tl (Code.tl (Code.tl (Code.tl (Code.tl (Code.tl ((Tryd.f3.body).getD .skip)))))))))))).wp Tryd.prog (bodyPost Tryd.prog Tryd.f3 (fun e w' => e = .returned (.bool true) ∧ Below w.heap.size w w')) ⟨#[(.slice mo ms.length mcap), (.int .i64 iv), (.int .i64 jv), sl3, sl4, sl5, sl6, (.pointer (some ⟨w.heap.size, 0, none⟩)), sl8, sl9, sl10, (.int .i64 (ms.length : Int)), sl12, (.pointer (some ⟨DB, 0, none⟩)), sl14, sl15, sl16, sl17, sl18, sl19, sl20, sl21, sl22, sl23, sl24, sl25, sl26, sl27, sl28, sl29, sl30, sl31, sl32, sl33, sl34, sl35, sl36, sl37, sl38, sl39, sl40, sl41, sl42, sl43, sl44, sl45, sl46, sl47, sl48, sl49, sl50, sl51, sl52, sl53, sl54, sl55, sl56, sl57, sl58, sl59, sl60, sl61, sl62, sl63, sl64, sl65, sl66, sl67, sl68, sl69, sl70, sl71, sl72, sl73, sl74, sl75, sl76, sl77, sl78, sl79, sl80, sl81, sl82, sl83, sl84, sl85, sl86, sl87, sl88, sl89, sl90, sl91, sl92, sl93, sl94, sl95, sl96, sl97, sl98, sl99, sl100, sl101, sl102, sl103, sl104, sl105, sl106, sl107, sl108, sl109, sl110, sl111, sl112, sl113, sl114, sl115, sl116, sl117, sl118, sl119, sl120, sl121, sl122, sl123, sl124, sl125, sl126, sl127, sl128, sl129, sl130, sl131, sl132, sl133, sl134, sl135, sl136, sl137, sl138, sl139, sl140, sl141, sl142, sl143, sl144, sl145, sl146, sl147, sl148, sl149, sl150, sl151, sl152, sl153, sl154, sl155, sl156, sl157, sl158, sl159, sl160, sl161, sl162, sl163, sl164, sl165, sl166, sl167, sl168, sl169, sl170, sl171, sl172, sl173, sl174, sl175, sl176, sl177], []⟩ W := by
  simp only [Code.tl, Tryd.f3, Option.getD_some]
  obtain ⟨j0, hj, hy0, hy1, hy2⟩ := info_parts Tryd.infoVec
  have HJ := hide hj; have HQ0 := hide hy0; have HQ1 := hide hy1; have HQ2 := hide hy2
  clear hj hy0 hy1 hy2
  have HM0 := hide hM; have HM := hide (hM.below hbe (Nat.le_refl _)); have HML := hide hml; have HBE := hide hbe; have HDW := hide hD; have NDW := hide hdn; have HK := hide hK; have HKB := hide hkb
  have HPOS : Hid (∀ u ∈ ms, 0 < u.length) := fun u hu => by rw [hml u hu]; exact hn1
  obtain ⟨a, ea, hal⟩ := place iv ms.length hn1
  obtain ⟨b, eb, hbl⟩ := place jv ms.length hn1
  clear hM hml hbe hD hdn hK hkb
  by_cases hab : a = b
  · subst hab
    go_wp2
    go_ret
    exact ⟨rfl, HBE.out⟩
  · have gab : ¬ ((a : Int) = (b : Int)) := by omega
    go_wp2_with (at_builtin; refine wpList_copy_rows rfl _ _ 23 rfl j0 (by kernel_rfl) HJ.out HQ0.out HQ1.out HQ2.out rfl _ _ ms 8 rfl HM.out hn1 (by omega) HPOS.out ?_)
    clear ea eb
    rintro rb cap2 w2 hc2 hrd2
    have HR2 := hide (hrd2 0)
    have HB2 := hide (hrd2 0).below
    obtain ⟨o1, l1, c1, d1, v1, -⟩ := HR2.out.row a ms[a] (List.getElem?_eq_getElem hal)
    obtain ⟨o2, l2, c2, d2, v2, -⟩ := HR2.out.row b ms[b] (List.getElem?_eq_getElem hbl)
    have HRA := hide (HR2.out.set hal v2 (fun _ _ => Or.inr (Nat.zero_le _)))
    have HRB := hide (HRA.out.set (k := b) (by rw [List.length_set]; exact hbl) (v1.grownS (grownBy_set w2 rb a (.slice o2 l2 c2)) HR2.out.all) (fun _ _ => Or.inr (Nat.zero_le _)))
    have q1 := HR2.out.thaw a
    have HCC := hide hc2
    clear v1 v2 hrd2 hc2
    go_wp2_with fail
    refine up_start (A := fun j => decide (j = 7 ∨ j = 11)) (S := (fun w' => w'.cell? ⟨rb, a, none⟩ = some (.slice o1 l1 c1) ∧ w'.cell? ⟨rb, b, none⟩ = some (.slice o2 l2 c2))) (by kernel_rfl) (by exact ⟨d1, d2⟩) (fun hHeld => ?_)
    refine up_pure (v := ?_) 0 115 rfl rfl (by kernel_rfl) (by kernel_rfl) (by kernel_rfl) (by kernel_rfl) (fun _ _ _ h => h) (by rfl) ?_ ?_
    rotate_left
    · (intro w; go_simp; with_reducible rfl)
    simp only [Act.put, List.setIfInBounds_toArray, List.set_cons_zero, List.set_cons_succ]
    refine up_pure (v := ?_) 1 116 rfl rfl (by kernel_rfl) (by kernel_rfl) (by kernel_rfl) (by kernel_rfl) (fun _ _ _ h => h) (by rfl) ?_ ?_
    rotate_left
    · (intro w; go_simp; with_reducible rfl)
    simp only [Act.put, List.setIfInBounds_toArray, List.set_cons_zero, List.set_cons_succ]
    refine up_pure (v := ?_) 2 117 rfl rfl (by kernel_rfl) (by kernel_rfl) (by kernel_rfl) (by kernel_rfl) (fun _ _ _ h => h) (by rfl) ?_ ?_
    rotate_left
    · (intro w; go_simp; with_reducible rfl)
    simp only [Act.put, List.setIfInBounds_toArray, List.set_cons_zero, List.set_cons_succ]
    refine up_pure (v := ?_) 3 118 rfl rfl (by kernel_rfl) (by kernel_rfl) (by kernel_rfl) (by kernel_rfl) (fun _ _ _ h => h) (by rfl) ?_ ?_
    rotate_left
    · (intro w; go_simp; with_reducible rfl)
    simp only [Act.put, List.setIfInBounds_toArray, List.set_cons_zero, List.set_cons_succ]
    refine up_pure (v := ?_) 4 119 rfl rfl (by kernel_rfl) (by kernel_rfl) (by kernel_rfl) (by kernel_rfl) (fun _ _ _ h => h) (by rfl) ?_ ?_
    rotate_left
    · (intro w; go_simp; with_reducible rfl)
    simp only [Act.put, List.setIfInBounds_toArray, List.set_cons_zero, List.set_cons_succ]
    refine up_pure (v := ?_) 5 120 rfl rfl (by kernel_rfl) (by kernel_rfl) (by kernel_rfl) (by kernel_rfl) (fun _ _ _ h => h) (by rfl) ?_ ?_
    rotate_left
    · (intro w; go_simp; with_reducible rfl)
    simp only [Act.put, List.setIfInBounds_toArray, List.set_cons_zero, List.set_cons_succ]
    refine up_pure (v := ?_) 6 121 rfl rfl (by kernel_rfl) (by kernel_rfl) (by kernel_rfl) (by kernel_rfl) (fun _ _ _ h => h) (by rfl) ?_ ?_
    rotate_left
    · (intro w; go_simp; with_reducible rfl)
    simp only [Act.put, List.setIfInBounds_toArray, List.set_cons_zero, List.set_cons_succ]
    refine up_pure (v := ?_) 8 123 rfl rfl (by kernel_rfl) (by kernel_rfl) (by kernel_rfl) (by kernel_rfl) (fun _ _ _ h => h) (by rfl) ?_ ?_
    rotate_left
    · (intro w; go_simp; with_reducible rfl)
    simp only [Act.put, List.setIfInBounds_toArray, List.set_cons_zero, List.set_cons_succ]
    refine up_pure (v := ?_) 9 124 rfl rfl (by kernel_rfl) (by kernel_rfl) (by kernel_rfl) (by kernel_rfl) (fun _ _ _ h => h) (by rfl) ?_ ?_
    rotate_left
    · (intro w; go_simp; with_reducible rfl)
    simp only [Act.put, List.setIfInBounds_toArray, List.set_cons_zero, List.set_cons_succ]
    refine up_pure (v := ?_) 10 125 rfl rfl (by kernel_rfl) (by kernel_rfl) (by kernel_rfl) (by kernel_rfl) (fun _ _ _ h => h) (by rfl) ?_ ?_
    rotate_left
    · (intro w; go_simp; with_reducible rfl)
    simp only [Act.put, List.setIfInBounds_toArray, List.set_cons_zero, List.set_cons_succ]
    refine up_run (v := ?_) 7 122 [12, 13, 14, 15] rfl rfl (by kernel_rfl) (by kernel_rfl) (by kernel_rfl) (by kernel_rfl) (fun _ _ _ h => h) (by rfl) ?_ (by assumption) ?_
    rotate_left
    · (intro w hSw; (try dsimp only at hSw); obtain ⟨hS1, hS2⟩ := hSw; go_simp; with_reducible rfl)
    simp only [Act.put, List.setIfInBounds_toArray, List.set_cons_zero, List.set_cons_succ]
    refine up_run (v := ?_) 11 126 [12, 13, 14, 15] rfl rfl (by kernel_rfl) (by kernel_rfl) (by kernel_rfl) (by kernel_rfl) (fun _ _ _ h => h) (by rfl) ?_ (by assumption) ?_
    rotate_left
    · (intro w hSw; (try dsimp only at hSw); obtain ⟨hS1, hS2⟩ := hSw; go_simp; with_reducible rfl)
    simp only [Act.put, List.setIfInBounds_toArray, List.set_cons_zero, List.set_cons_succ]
    refine up_pure (v := ?_) 12 127 rfl rfl (by kernel_rfl) (by kernel_rfl) (by kernel_rfl) (by kernel_rfl) (fun _ _ _ h => h) (by rfl) ?_ ?_
    rotate_left
    · (intro w; go_simp; with_reducible rfl)
    simp only [Act.put, List.setIfInBounds_toArray, List.set_cons_zero, List.set_cons_succ]
    refine up_one 13 (by kernel_rfl) rfl (fun K hK => ?_)
    go_simp
    refine hK.out _ _ (fun h => absurd h (by decide)) ?_
    clear hK K
    try simp only [Act.put, List.setIfInBounds_toArray, List.set_cons_zero, List.set_cons_succ]
    refine up_pure (v := ?_) 14 128 rfl rfl (by kernel_rfl) (by kernel_rfl) (by kernel_rfl) (by kernel_rfl) (fun _ _ _ h => h) (by rfl) ?_ ?_
    rotate_left
    · (intro w; go_simp; with_reducible rfl)
    simp only [Act.put, List.setIfInBounds_toArray, List.set_cons_zero, List.set_cons_succ]
    have d3 : (w2.setCell ⟨rb, a, none⟩ (.slice o2 l2 c2)).cell? ⟨rb, b, none⟩ = some (.slice o2 l2 c2) := (World.cell?_setCell_other (h := fun e => by simp at e <;> omega) ..).trans d2
    have q3 := HRA.out.thaw b
    refine up_one 15 (by kernel_rfl) rfl (fun K hK => ?_)
    go_simp
    refine hK.out _ _ (fun h => absurd h (by decide)) ?_
    clear hK K
    try simp only [Act.put, List.setIfInBounds_toArray, List.set_cons_zero, List.set_cons_succ]
    refine up_done (by kernel_rfl) ?_
    have HB3 := hide HRB.out.below
    have HSM : Hid (MatN ((w2.setCell ⟨rb, a, none⟩ (.slice o2 l2 c2)).setCell ⟨rb, b, none⟩ (.slice o1 l1 c1)) (.slice (some ⟨rb, 0, none⟩) ms.length cap2) ((ms.set a ms[b]).set b ms[a]) 8) := by
      have := HRB.out.mat cap2 (by rw [List.length_set, List.length_set]; exact HCC.out)
      rw [List.length_set, List.length_set] at this
      exact this
    have HSD := hide (det_two rfl hal hbl hab)
    have HSL : Hid (((ms.set a ms[b]).set b ms[a]).length = ms.length) := by show _ = _; rw [List.length_set, List.length_set]
    have HSR : Hid (∀ u ∈ (ms.set a ms[b]).set b ms[a], u.length = ms.length) := fun u hu => by
      rcases List.mem_or_eq_of_mem_set hu with hu | rfl
      · rcases List.mem_or_eq_of_mem_set hu with hu | rfl
        · exact HML.out u hu
        · exact HML.out _ (List.getElem_mem hbl)
      · exact HML.out _ (List.getElem_mem hal)
    generalize ((w2.setCell ⟨rb, a, none⟩ (.slice o2 l2 c2)).setCell ⟨rb, b, none⟩ (.slice o1 l1 c1)) = U3 at *
    generalize (ms.set a ms[b]).set b ms[a] = ss at *
    have hdr : Below U3.heap.size U3 U3.drew := (Below.refl _ _).drew
    replace HSM := hide (HSM.out.below hdr (Nat.le_refl _)); replace HB3 := hide (HB3.out.trans (hdr.mono HB3.out.size))
    clear hdr HRB
    generalize U3.drew = W3 at *
    have HB3w := hide (HBE.out.trans (HB3.out.mono HBE.out.size))
    obtain ⟨mb, moff, mcap', em, mlt, va, ca, hva⟩ := (HM.out.below HB3.out (Nat.le_refl _)).at a hal
    obtain ⟨_, _, _, em', -, vb, cb, hvb⟩ := (HM.out.below HB3.out (Nat.le_refl _)).at b hbl
    simp only [Value.slice.injEq, true_and] at em em'
    obtain ⟨rfl, rfl⟩ := em
    simp only [Option.some.injEq, Addr.mk.injEq, and_true] at em'
    obtain ⟨⟨rfl, rfl⟩, -⟩ := em'
    have hul := HML.out _ (List.getElem_mem hal)
    have hvl := HML.out _ (List.getElem_mem hbl)
    have HEA : Hid (ms.getD a [] = ms[a]) := getD_row hal
    have HEB : Hid (ms.getD b [] = ms[b]) := getD_row hbl
    generalize ms[a] = als at *
    generalize ms[b] = bs at *
    obtain ⟨ab, aoff, acap, rfl⟩ := hva.form (by omega)
    obtain ⟨bb, boff, bcap, rfl⟩ := hvb.form (by omega)
    have HVA := hide hva; have HVB := hide hvb; have HUL := hide hul; have HVL := hide hvl
    obtain ⟨t2, ht2⟩ : ∃ t2, bs.map (z * ·) = t2 := ⟨_, rfl⟩
    have ht2l : t2.length = bs.length := by rw [← ht2, List.length_map]
    obtain ⟨t3, ht3⟩ : ∃ t3, List.zipWith (fun x y => x + y) als t2 = t3 := ⟨_, rfl⟩
    have h12 : als.length = t2.length := by omega
    have ht3l : t3.length = als.length := by rw [← ht3]; exact zip_len _ _ _ h12
    have HS2 : Hid (∀ w' vk uv, NumL w' vk z 3 → VecN w' uv bs 8 → Calls Tryd.prog 17 #[vk, uv] w' fun e w'' => VecPost w' t2 11 e w'') := fun w' vk uv hk hu => by
      rw [← ht2]; exact scaleV_any w' vk uv z bs 3 8 hk hu (by omega) (by decide) (by decide)
    have HAD : Hid (∀ w' va vb, VecN w' va als 12 → VecN w' vb t2 12 → Calls Tryd.prog 16 #[va, vb] w' fun e w'' => ∃ P, e = .returned (.tuple #[.slice (some ⟨P, 0, none⟩) ms.length ms.length, .nilIface]) ∧ VecO w' w'' P t3 13) := fun w' va vb h1 h2 => by
      rw [← hul, ← ht3]; exact addV_any w' va vb als t2 12 h1 h2 h12 (by omega) (by decide)
    have HTL : Hid (t3.length = ms.length) := by show _ = _; omega
    have HTD : Hid (det ms.length (ent (ms.set a t3)) = det ms.length (ent ms)) := det_more rfl hal hbl hab (z := z) fun j hj => by
      unfold ent
      rw [HEA.out, HEB.out, ← ht3, zipA_getD als t2 j (by omega) (by omega), ← ht2, map_getD0' bs z j (by omega)]
    have kb := HKB.out.later HB3.out
    have NK := hide (HK.out.below HB3w.out (Nat.le_refl _))
    obtain ⟨k0, k1, -, -⟩ := kb.1
    have hks := kb.2
    clear ht2 ht3 h12 ht2l ht3l hva hvb hul hvl kb
    clear d1 d2 d3 q1 q3 HRA HR2 HB2 hHeld
    go_upto_region 30 with fail
    go_cut [20, 10] from 26 (fun v v2 wc => v2 = .nilIface ∧ ∃ P, v = .slice (some ⟨P, 0, none⟩) ms.length ms.length ∧ VecO W3 wc P t3 13)
    case first =>
      go_region_held3 (fun w' => w'.cell? ⟨w.heap.size, 0, none⟩ = some (.bool kn) ∧ w'.cell? ⟨w.heap.size, 1, none⟩ = some (.slice ko kl kc) ∧ w'.cell? ⟨mb, moff + a, none⟩ = some (.slice (some ⟨ab, aoff, none⟩) als.length acap) ∧ w'.cell? ⟨mb, moff + b, none⟩ = some (.slice (some ⟨bb, boff, none⟩) bs.length bcap)) (go_keep)
        (first
          | (go_at_call 17; refine (HS2.out _ _ _ (by exact NK.out) (by exact HVB.out)).mono ?_; rintro e w4 ⟨P2, rfl, ho4⟩; have hb4 : Below W3.heap.size W3 w4 := ((Below.refl W3.heap.size W3).drew).trans ho4.below; have p0 := (hb4.cell (p := ⟨w.heap.size, 0, none⟩) hks).trans k0; have p1 := (hb4.cell (p := ⟨w.heap.size, 1, none⟩) hks).trans k1; have p2 := (hb4.cell (p := ⟨mb, moff + a, none⟩) mlt).trans ca; have p3 := (hb4.cell (p := ⟨mb, moff + b, none⟩) mlt).trans cb; have HO4 := hide ho4; have HB4 := hide hb4; have hs4 := hb4.size; clear ho4 hb4)
          | (go_at_call 16; refine (HAD.out _ _ _ (by exact (HVA.out.mono (by decide)).below HB4.out (Nat.le_refl _)) (by exact HO4.out.vec.mono (by decide))).mono ?_; rintro e w5 ⟨P3, rfl, ho5⟩; have q0 := (ho5.below.cell (p := ⟨w.heap.size, 0, none⟩) (by show w.heap.size < w4.heap.size; omega)).trans p0; have q1 := (ho5.below.cell (p := ⟨w.heap.size, 1, none⟩) (by show w.heap.size < w4.heap.size; omega)).trans p1; have q2 := (ho5.below.cell (p := ⟨mb, moff + a, none⟩) (by show mb < w4.heap.size; omega)).trans p2; have q3 := (ho5.below.cell (p := ⟨mb, moff + b, none⟩) (by show mb < w4.heap.size; omega)).trans p3; have HO5 := hide ho5; clear ho5))
      have HOF : Hid (VecO W3 w5 P3 t3 13) := ⟨HO5.out.vec, Nat.le_trans HB4.out.size HO5.out.low, HB4.out.trans (HO5.out.below.mono HB4.out.size), HO5.out.blk⟩
      go_wp2
      go_meet
      case rel => exact ⟨rfl, P3, rfl, HOF.out⟩
    case rest =>
    obtain ⟨rfl, P, rfl, ho⟩ := hcut
    apply_assumption
    have hv := ho.vec
    rw [HTL.out] at hv
    exact topDet_D w _ (some ⟨mb, moff, none⟩) mcap a rb cap2 P DB nd dn dO dL dC ms ss t3 (det ms.length (ent ms)) (HB3w.out.trans (ho.below.mono HB3w.out.size)) HM0.out HML.out hn1 hn6 hal ((HDW.out.later HB3.out).later ho.below) ((NDW.out.below HB3.out (Nat.le_refl _)).below ho.below (Nat.le_refl _)) hnd (HSM.out.below ho.below (Nat.le_refl _)) HSL.out HSR.out HSD.out hv HTL.out HTD.out _ _ _ _ _ _ _ _ _ _ _ _ _ _ _ _ _ _ _ _ _ _ _ _ _ _ _ _ _ _ _ _ _ _ _ _ _ _ _ _ _ _ _ _ _ _ _ _ _ _ _ _ _ _ _ _ _ _ _ _ _ _ _ _ _ _ _ _ _ _ _ _ _ _ _ _ _ _ _ _ _ _ _ _ _ _ _ _ _ _ _ _ _ _ _ _ _ _ _ _ _ _ _ _ _ _ _ _ _ _ _ _ _ _ _ _ _ _ _ _ _ _ _ _ _ _ _ _ _ _ _ _ _ _ _ _ _ _ _ _ _ _ _ _ _ _ _ _ _ _ _ _ _ _ _ _ _ _ _ _ _ _ _ _ _ _ _ _ _ _ _ _

end Go.Proofs.YtmeefloajhffbaaDoor
