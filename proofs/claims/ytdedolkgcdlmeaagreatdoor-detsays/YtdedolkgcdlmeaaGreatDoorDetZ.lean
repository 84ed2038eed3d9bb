/- mat.Det. -/
import Derived.Test.YtdedolkgcdlmeaaGreatDoorDetY
import Derived.Test.YtdedolkgcdlmeaaGreatDoorUpP
import Derived.Deep.Cut
import Derived.Deep.CutRange
namespace Go.Proofs.YtdedolkgcdlmeaaGreatDoor
open Go.RowKit Limbs

/-- While the rows behind are cleared: i are done. -/
structure DetJ (w W : World) (lo rb T n nv k i : Nat) (R : List (List Int)) (t last : Int) (P : Nat → Nat → Int) : Prop where
  res : BoxL W w.heap.size (.bool false) (.slice none 0 0)
  ex : ∃ R2 : List (List Int), R2.length = n ∧ (∀ u ∈ R2, u.length = n) ∧ (∀ a, a ≤ k ∨ k + 1 + i ≤ a → R2.getD a [] = R.getD a []) ∧ (∀ a b, k < a → a < k + 1 + i → k < b → b < n → ent R2 a b = bord (k + 1) P a b) ∧ RowsD w W rb lo (T + 2) R2 (n * nv + 2)
  tb : ∃ tn tO tL tC, BoxL W T (.bool tn) (.slice tO tL tC) ∧ NumL W (.agg #[.bool tn, .slice tO tL tC]) t 2
  lb : ∃ ln lO lL lC, BoxL W (T + 1) (.bool ln) (.slice lO lL lC) ∧ NumL W (.agg #[.bool ln, .slice lO lL lC]) last (n * nv + 2)

theorem bord_small {n nv k i j : Nat} {P : Nat → Nat → Int} (h : ∀ i j, i < n → j < n → absI (P i j) ≤ bp nv) (hk : k + 2 ≤ n) (h8 : n ≤ 8) (hi : i < n) (hj : j < n) : ab (bord (k + 1) P i j) < bp (n * nv + 2) := by
  have hB : (0 : Int) ≤ bp nv := Int.le_of_lt (bp_pos nv)
  have h1 : absI (bord (k + 1) P i j) ≤ facP (k + 2) (bp nv) := bord_le hB h (by omega) hi hj
  have h2 := facP_lt (v := nv) hk (by omega : n ≤ 16)
  have h0 := facP_nonneg (k + 2) hB
  have h3 := Int.mul_le_mul_of_nonneg_right (show (1 : Int) ≤ ((k + 2 : Nat) : Int) by omega) h0
  rw [Int.one_mul] at h3
  exact Int.lt_of_le_of_lt h1 (Int.lt_of_le_of_lt h3 h2)

theorem clrL_get (n k j : Nat) (q : Nat → Int) (b : Nat) (h1 : k ≤ b) (h2 : b < k + j) (h3 : b < n) : (clrL n k j q).getD b 0 = q b := by
  unfold clrL
  rw [range_getD _ _ b h3, if_neg (by omega), if_pos h2]

section
variable {w W W' : World} {lo rb T n nv k i p Q : Nat} {R : List (List Int)} {t last : Int} {P : Nat → Nat → Int}

theorem DetJ.step (J : DetJ w W lo rb T n nv k i R t last P) (hb : Below W.heap.size W W') (hp : k + 1 + i = p) (hpn : p < n) (h1 : w.heap.size < lo) (h2 : lo ≤ rb) (h3 : rb < T) (hv : VecN W' (.slice (some ⟨Q, 0, none⟩) n n) (clrL n k (n - k) (bord (k + 1) P p)) (n * nv + 2)) (hQ : W.heap.size ≤ Q) :
    DetJ w (W'.setCell ⟨rb, p, none⟩ (.slice (some ⟨Q, 0, none⟩) n n)) lo rb T n nv k (i + 1) R t last P := by
  obtain ⟨R2, hl2, hr2, hs2, hc2, hRD2⟩ := J.ex
  obtain ⟨tn, tO, tL, tC, hT, hnt⟩ := J.tb
  obtain ⟨ln, lO, lL, lC, hL, hnl⟩ := J.lb
  have hRD3 := hRD2.later hb
  have hg := grownBy_set W' rb p (.slice (some ⟨Q, 0, none⟩) n n)
  have hp2 : p < R2.length := by omega
  have other : ∀ {B : Nat} {x y : Value}, B ≠ rb → BoxL W B x y → BoxL (W'.setCell ⟨rb, p, none⟩ (.slice (some ⟨Q, 0, none⟩) n n)) B x y := fun hne hx => ⟨(hx.later hb).1.other (B := rb) hne p _, by simpa using (hx.later hb).2⟩
  have hT2 := hL.2
  refine ⟨other (by omega) J.res, ⟨R2.set p (clrL n k (n - k) (bord (k + 1) P p)), by rw [List.length_set]; exact hl2, fun u hu => ?_, fun a ha => ?_, fun a b h4 h5 h6 h7 => ?_, hRD3.set hp2 hv fun a ha => ?_⟩, ⟨_, _, _, _, other (by omega) hT, (hnt.below hb (Nat.le_refl _)).grownS hg hRD3.all⟩, ⟨_, _, _, _, other (by omega) hL, (hnl.below hb (Nat.le_refl _)).grownS hg hRD3.all⟩⟩
  · rcases List.mem_or_eq_of_mem_set hu with hu | rfl
    · exact hr2 u hu
    · exact clrL_len ..
  · rw [← hs2 a (by omega), List.getD_eq_getElem?_getD, List.getElem?_set_ne (by omega), ← List.getD_eq_getElem?_getD]
  · by_cases e : a = p
    · subst e
      unfold ent
      rw [List.getD_eq_getElem?_getD (l := R2.set a _), List.getElem?_set_self hp2, Option.getD_some]
      exact clrL_get n k (n - k) _ b (by omega) (by omega) h7
    · have := hc2 a b h4 (by omega) h6 h7
      unfold ent at this ⊢
      rwa [List.getD_eq_getElem?_getD (l := R2.set p _), List.getElem?_set_ne (Ne.symm e), ← List.getD_eq_getElem?_getD]
  · obtain rfl := Option.some.inj ha
    exact Or.inr (by show T + 2 ≤ Q; omega)

theorem DetJ.fin {R2 : List (List Int)} {M : List (List Int)} {zn : Bool} {zO : Option Addr} {zL zC : Nat} (J : DetJ w W lo rb T n nv k i R t last P) (hl2 : R2.length = n) (hr2 : ∀ u ∈ R2, u.length = n) (hc2 : ∀ a b, k < a → a < k + 1 + i → k < b → b < n → ent R2 a b = bord (k + 1) P a b) (hRD2 : RowsD w W rb lo (T + 2) R2 (n * nv + 2))
    (C : BarI n k (ent M) (bp nv) t last (ent R) P) (hp : ent R k k ≠ 0) (hk : k < n) (hi : k + 1 + i = n) (hb : w.heap.size < lo ∧ lo ≤ T ∧ lo ≤ rb ∧ rb < T) (hz : NumL W (.agg #[.bool zn, .slice zO zL zC]) (ent R k k) (n * nv + 2)) :
    DetI w ((W.setCell ⟨T + 1, 0, none⟩ (.bool zn)).setCell ⟨T + 1, 1, none⟩ (.slice zO zL zC)) lo rb T n nv (k + 1) M ∧ Below w.heap.size w ((W.setCell ⟨T + 1, 0, none⟩ (.bool zn)).setCell ⟨T + 1, 1, none⟩ (.slice zO zL zC)) := by
  obtain ⟨tn, tO, tL, tC, hT, hnt⟩ := J.tb
  obtain ⟨ln, lO, lL, lC, hL, hnl⟩ := J.lb
  have hset := hRD2.setBox (y := .bool zn) (z := .slice zO zL zC) hL.1 (by omega) (by omega) (by omega) (by omega) (by simp) (by simp)
  have other : ∀ {B : Nat} {x y : Value}, B ≠ T + 1 → BoxL W B x y → BoxL ((W.setCell ⟨T + 1, 0, none⟩ (.bool zn)).setCell ⟨T + 1, 1, none⟩ (.slice zO zL zC)) B x y := fun hne hx => ⟨(hx.1.other (B := T + 1) hne _ _).other (B := T + 1) hne _ _, by simpa using hx.2⟩
  refine ⟨⟨hb.1, hb.2.1, hb.2.2.1, hb.2.2.2, other (by omega) J.res, R2, t, ent R k k, P, hl2, hr2, C.step hk hp fun a b h1 h2 h3 h4 => ?_, hset, ⟨_, _, _, _, other (by omega) hT, hnt.wrote hL.1 (by simp) (by simp)⟩, ⟨_, _, _, _, ⟨hL.1.write _ _, by simpa using hL.2⟩, hz.wrote hL.1 (by simp) (by simp)⟩⟩, hset.below⟩
  rw [hc2 a b h1 (by omega) h3 h4]
  exact (C.goes hk h1 h2 (by omega) h4).symm

end

set_option linter.unusedSimpArgs false in
set_option maxRecDepth 100000 in
set_option maxHeartbeats 6400000 in
theorem det_start (w : World) (va : Value) (ms : List (List Int)) (n nv : Nat) (hv : MatN w va ms nv) (hm : ms.length = n) (hr : ∀ us ∈ ms, us.length = n) (h1 : 1 ≤ n) (h8 : n ≤ 8) (hnv : n * nv + 2 ≤ 100000) :
    Calls Tryz.prog 12 #[va] w fun e w' => ∃ v, e = .returned (.tuple #[v, .nilIface]) ∧ NumL w' v (det n (ent ms)) (2 + (n * nv + 2)) ∧ Below w.heap.size w w' := by
  have HV := hide hv; have HM := hide hm; have HR := hide hr
  obtain ⟨ao, cap, rfl, -, -⟩ := hv
  clear hm hr
  have hml : ms.length ≤ 8 := by rw [HM.out]; exact h8
  have hml1 : 0 < ms.length := by rw [HM.out]; exact h1
  have X2 := hide (BoxL.new w (.bool false) (.slice none 0 0) 29)
  have HB0 := hide (below_new w (.cells #[.bool false, .slice none 0 0] 29))
  have HM0 := hide (HV.out.below HB0.out (Nat.le_refl _))
  go_enter Tryz.func12, Tryz.ntmps12
  go_wp2_with fail
  generalize w.alloc (.cells #[.bool false, .slice none 0 0] 29) = W0 at *
  refine (checkM_ok W0 _ ms ms.length nv HM0.out hml1 hml (by omega) (by rw [HM.out]; exact HR.out)).mono ?_
  rintro e w1 ⟨rfl, hb1⟩
  have HB1 := hide (HB0.out.trans (hb1.mono HB0.out.size)); have X21 := hide (X2.out.later hb1); have HM1 := hide (HM0.out.below hb1 (Nat.le_refl _))
  clear hb1 X2 HM0 HB0
  go_wp2_with fail
  refine (clone_any w1 _ ms nv HM1.out hml1 (by omega) (fun u hu => by rw [HR.out u hu]; exact h1)).mono ?_
  rintro e w2 ⟨rb, ccap, rfl, hcc, hrd⟩
  have HRD := hide hrd; have HCC := hide hcc
  have X22 := hide (X21.out.later (hrd 0).below)
  have HB2 := hide (HB1.out.trans ((hrd 0).below.mono HB1.out.size))
  have HLO : Hid (w.heap.size < w1.heap.size) := X21.out.2
  have HRB : Hid (rb < w2.heap.size) := (hrd 0).lt
  have HRLO : Hid (w1.heap.size ≤ rb) := (hrd 0).low
  have HW12 : Hid (w1.heap.size ≤ w2.heap.size) := (hrd 0).below.size
  clear hrd hcc X21 HM1
  go_wp2_with fail
  refine (of_any w2 1 (by decide) (by decide)).mono ?_
  rintro e w3 ⟨v3, rfl, hv3, hb3⟩
  obtain ⟨⟨tn, tO, tL, tC⟩, rfl⟩ := hv3.nm
  have NT3 := hide hv3; have X23 := hide (X22.out.later hb3); have HRD3 := hide (fun up => (HRD.out up).later hb3)
  have HB3 := hide (HB2.out.trans (hb3.mono HB2.out.size)); have HS3 := hide hb3.size
  clear hv3 hb3 X22 HRD HB2
  go_wp2_with fail
  refine (of_any w3 1 (by decide) (by decide)).mono ?_
  rintro e w4 ⟨v4, rfl, hv4, hb4⟩
  obtain ⟨⟨ln, lO, lL, lC⟩, rfl⟩ := hv4.nm
  have hN1 := below_new w4 (.cells #[.bool tn, .slice tO tL tC] 29)
  have hN2 := below_new (w4.alloc (.cells #[.bool tn, .slice tO tL tC] 29)) (.cells #[.bool ln, .slice lO lL lC] 29)
  have HBX := hide (hb4.trans ((hN1.trans (hN2.mono hN1.size)).mono hb4.size))
  have HDI : Hid (DetI w ((w4.alloc (.cells #[.bool tn, .slice tO tL tC] 29)).alloc (.cells #[.bool ln, .slice lO lL lC] 29)) w1.heap.size rb w4.heap.size n nv 0 ms) := by
    have hs4 := hb4.size
    refine ⟨HLO.out, by have := HW12.out; have := HS3.out; omega, HRLO.out, by have := HRB.out; have := HS3.out; omega, X23.out.later HBX.out, ms, 1, 1, ent ms, HM.out, HR.out, BarI.start fun i j hi hj => ?_, (((HRD3.out (w4.heap.size + 2)).later HBX.out).from HB1.out).mono ?_, ⟨_, _, _, _, (BoxL.new w4 _ _ _).later hN2, ((NT3.out.below hb4 (Nat.le_refl _)).below hN1 (Nat.le_refl _)).below hN2 (Nat.le_refl _)⟩, ⟨ln, lO, lL, lC, by have := BoxL.new (w4.alloc (.cells #[.bool tn, .slice tO tL tC] 29)) (.bool ln) (.slice lO lL lC) 29; rwa [World.size_alloc] at this, ?_⟩⟩
    · have hi' : i < ms.length := by rw [HM.out]; exact hi
      have := HV.out.abs ms[i] (List.getElem_mem hi') j (by rw [HR.out _ (List.getElem_mem hi')]; exact hj)
      unfold ent
      rw [getD_row hi']
      exact Int.le_of_lt this
    · have := Nat.mul_le_mul_right nv h1
      omega
    · exact ((hv4.below hN1 (Nat.le_refl _)).below hN2 (Nat.le_refl _)).mono (by omega)
  have HBW := hide (HB3.out.trans (HBX.out.mono HB3.out.size))
  clear hv4 hb4 hN1 hN2 HBX NT3 X23 HRD3 HB3
  go_wp2
  generalize hWX : ((w4.alloc (.cells #[.bool tn, .slice tO tL tC] 29)).alloc (.cells #[.bool ln, .slice lO lL lC] 29)) = WX at *
  clear hWX
  generalize w4.heap.size = T at *
  generalize w1.heap.size = lo at *
  clear HLO HRB HW12 HS3 HB1 HRLO
  go_loopw [26] (fun x wr => ∃ k : Nat, k ≤ n ∧ x = .int .i64 k ∧ Hid (DetI w wr lo rb T n nv k ms) ∧ Hid (Below w.heap.size w wr)) (fun x _ => n - (intOf x).toNat)
  case atStart => exact ⟨0, Nat.zero_le _, rfl, HDI, HBW⟩
  case round =>
    clear HDI HBW
    obtain ⟨k, hk, rfl, HDI, HBW⟩ := hrel
    obtain ⟨R, t, last, P, hRl, hRr, hBar, hRD, ⟨tn, tO, tL, tC, hT, hnt⟩, ln, lO, lL, lC, hL, hnl⟩ := HDI.out.ex
    have HRL := hide hRl; have HRR := hide hRr; have HBAR := hide hBar; have HRD := hide hRD; have HT := hide hT; have HNT := hide hnt; have HL := hide hL; have HNL := hide hnl
    have X2 := hide HDI.out.res
    clear hRl hRr hBar hRD hT hnt hL hnl
    by_cases hkn : k < n
    · have g1 : k < ms.length := by have := HM.out; omega
      have HMR : Hid (MatN wr (.slice (some ⟨rb, 0, none⟩) ms.length ccap) R (n * nv + 2)) := by
        have h := HRD.out.mat ccap (by have := HCC.out; have := HM.out; have := HRL.out; omega)
        rw [HRL.out.trans HM.out.symm] at h
        exact h
      go_wp2_with fail
      refine (rowWith_any wr _ n (n * nv + 2) k R HMR.out HRR.out HRL.out hkn (by omega)).mono ?_
      rintro e w5 ⟨hb5, hc5⟩
      rcases hc5 with ⟨rfl, hz⟩ | ⟨f, rfl, hkf, hfn, hf0⟩
      · have HD0 := hide (HBAR.out.none hkn hz)
        have X25 := hide (X2.out.later hb5)
        have HB5 := hide (HBW.out.trans (hb5.mono HBW.out.size))
        clear hz hb5
        go_wp2_with fail
        refine (of_any w5 0 (by decide) (by decide)).mono ?_
        rintro e w6 ⟨v6, rfl, hv6, hb6⟩
        obtain ⟨⟨zn, zO, zL, zC⟩, rfl⟩ := hv6.nm
        have X26 := hide (X25.out.later hb6)
        have HB6 := hide (HB5.out.trans (hb6.mono HB5.out.size))
        have Z := hide (X26.out.1.write (.bool zn) (.slice zO zL zC))
        have HN6 := hide ((hv6.wrote (v0 := .bool zn) (v1 := .slice zO zL zC) X26.out.1 (by simp) (by simp)).mono (show 2 ≤ 2 + (n * nv + 2) by omega))
        have HB7 := hide ((HB6.out.setCell (p := ⟨w.heap.size, 0, none⟩) (Nat.le_refl _) (.bool zn)).setCell (p := ⟨w.heap.size, 1, none⟩) (Nat.le_refl _) (.slice zO zL zC))
        obtain ⟨x0, x1, x2, x3⟩ := X26.out.1
        obtain ⟨z0, z1, -, -⟩ := Z.out
        clear hv6 hb6
        go_wp2
        exact bodyPost_ret (v := .tuple #[.agg #[.bool zn, .slice zO zL zC], .nilIface]) (by simp [results, Tryz.results12, go_sem, z0, z1]) rfl ⟨_, rfl, by rw [HD0.out]; exact HN6.out, HB7.out⟩
      · have HB5 := hide (HBW.out.trans (hb5.mono HBW.out.size)); have HRD5 := hide (HRD.out.later hb5); have HT5 := hide (HT.out.later hb5); have HL5 := hide (HL.out.later hb5); have NT5 := hide (HNT.out.below hb5 (Nat.le_refl _)); have NL5 := hide (HNL.out.below hb5 (Nat.le_refl _)); have X25 := hide (X2.out.later hb5)
        have HF0 := hide hf0; have HDB := hide (And.intro HDI.out.base (And.intro HDI.out.low (And.intro HDI.out.rlo HDI.out.ne)))
        clear hb5 HRD HT HL HNT HNL X2 HDI HBW hf0 HMR
        go_upto_if 37 with fail
        go_cut [10, 26] from 26 to 89 (fun v x wc => v = .int .i64 (f : Int) ∧ x = .int .i64 (k : Int) ∧ DetK w wc lo rb T n nv k ms ∧ Below w.heap.size w wc)
        case first =>
          by_cases hfk : k = f
          · subst hfk
            have HK : Hid (DetK w w5 lo rb T n nv k ms) := ⟨HDB.out.1, HDB.out.2.1, HDB.out.2.2.1, HDB.out.2.2.2, X25.out, R, t, last, P, HRL.out, HRR.out, HBAR.out, HF0.out, HRD5.out, ⟨_, _, _, _, HT5.out, NT5.out⟩, ⟨_, _, _, _, HL5.out, NL5.out⟩⟩
            go_wp2
            go_meet
            case rel => exact ⟨rfl, rfl, HK.out, HB5.out⟩
          · have hlt : k < f := by omega
            have gf : ¬ ((f : Int) = (k : Int)) := by omega
            have gk : k < ms.length := by have := HM.out; omega
            have gff : f < ms.length := by have := HM.out; omega
            have hkR : k < R.length := by have := HRL.out; omega
            have hfR : f < R.length := by have := HRL.out; omega
            obtain ⟨o1, l1, c1, d1, v1, s1⟩ := HRD5.out.row k R[k] (List.getElem?_eq_getElem hkR)
            obtain ⟨o2, l2, c2, d2, v2, s2⟩ := HRD5.out.row f R[f] (List.getElem?_eq_getElem hfR)
            have HRA := hide (HRD5.out.set hkR v2 s2)
            have HRB2 := hide (HRA.out.set (k := f) (by rw [List.length_set]; exact hfR) (v1.grownS (grownBy_set w5 rb k (.slice o2 l2 c2)) HRD5.out.all) s1)
            have q1 := HRD5.out.thaw k
            clear v1 v2 s1 s2
            go_wp2_with fail
            refine up_start (A := fun j => decide (j = 7 ∨ j = 11)) (S := (fun w' => w'.cell? ⟨rb, k, none⟩ = some (.slice o1 l1 c1) ∧ w'.cell? ⟨rb, f, none⟩ = some (.slice o2 l2 c2))) (by kernel_rfl) (by exact ⟨d1, d2⟩) (fun hHeld => ?_)
            refine up_pure (v := ?_) 0 38 rfl rfl (by kernel_rfl) (by kernel_rfl) (by kernel_rfl) (by kernel_rfl) (fun _ _ _ h => h) (by rfl) ?_ ?_
            rotate_left
            · (intro w; go_simp; with_reducible rfl)
            simp only [Act.put, List.setIfInBounds_toArray, List.set_cons_zero, List.set_cons_succ]
            refine up_pure (v := ?_) 1 39 rfl rfl (by kernel_rfl) (by kernel_rfl) (by kernel_rfl) (by kernel_rfl) (fun _ _ _ h => h) (by rfl) ?_ ?_
            rotate_left
            · (intro w; go_simp; with_reducible rfl)
            simp only [Act.put, List.setIfInBounds_toArray, List.set_cons_zero, List.set_cons_succ]
            refine up_pure (v := ?_) 2 40 rfl rfl (by kernel_rfl) (by kernel_rfl) (by kernel_rfl) (by kernel_rfl) (fun _ _ _ h => h) (by rfl) ?_ ?_
            rotate_left
            · (intro w; go_simp; with_reducible rfl)
            simp only [Act.put, List.setIfInBounds_toArray, List.set_cons_zero, List.set_cons_succ]
            refine up_pure (v := ?_) 3 41 rfl rfl (by kernel_rfl) (by kernel_rfl) (by kernel_rfl) (by kernel_rfl) (fun _ _ _ h => h) (by rfl) ?_ ?_
            rotate_left
            · (intro w; go_simp; with_reducible rfl)
            simp only [Act.put, List.setIfInBounds_toArray, List.set_cons_zero, List.set_cons_succ]
            refine up_pure (v := ?_) 4 42 rfl rfl (by kernel_rfl) (by kernel_rfl) (by kernel_rfl) (by kernel_rfl) (fun _ _ _ h => h) (by rfl) ?_ ?_
            rotate_left
            · (intro w; go_simp; with_reducible rfl)
            simp only [Act.put, List.setIfInBounds_toArray, List.set_cons_zero, List.set_cons_succ]
            refine up_pure (v := ?_) 5 43 rfl rfl (by kernel_rfl) (by kernel_rfl) (by kernel_rfl) (by kernel_rfl) (fun _ _ _ h => h) (by rfl) ?_ ?_
            rotate_left
            · (intro w; go_simp; with_reducible rfl)
            simp only [Act.put, List.setIfInBounds_toArray, List.set_cons_zero, List.set_cons_succ]
            refine up_pure (v := ?_) 6 44 rfl rfl (by kernel_rfl) (by kernel_rfl) (by kernel_rfl) (by kernel_rfl) (fun _ _ _ h => h) (by rfl) ?_ ?_
            rotate_left
            · (intro w; go_simp; with_reducible rfl)
            simp only [Act.put, List.setIfInBounds_toArray, List.set_cons_zero, List.set_cons_succ]
            refine up_pure (v := ?_) 8 46 rfl rfl (by kernel_rfl) (by kernel_rfl) (by kernel_rfl) (by kernel_rfl) (fun _ _ _ h => h) (by rfl) ?_ ?_
            rotate_left
            · (intro w; go_simp; with_reducible rfl)
            simp only [Act.put, List.setIfInBounds_toArray, List.set_cons_zero, List.set_cons_succ]
            refine up_pure (v := ?_) 9 47 rfl rfl (by kernel_rfl) (by kernel_rfl) (by kernel_rfl) (by kernel_rfl) (fun _ _ _ h => h) (by rfl) ?_ ?_
            rotate_left
            · (intro w; go_simp; with_reducible rfl)
            simp only [Act.put, List.setIfInBounds_toArray, List.set_cons_zero, List.set_cons_succ]
            refine up_pure (v := ?_) 10 48 rfl rfl (by kernel_rfl) (by kernel_rfl) (by kernel_rfl) (by kernel_rfl) (fun _ _ _ h => h) (by rfl) ?_ ?_
            rotate_left
            · (intro w; go_simp; with_reducible rfl)
            simp only [Act.put, List.setIfInBounds_toArray, List.set_cons_zero, List.set_cons_succ]
            refine up_run (v := ?_) 7 45 [12, 13, 14, 15] rfl rfl (by kernel_rfl) (by kernel_rfl) (by kernel_rfl) (by kernel_rfl) (fun _ _ _ h => h) (by rfl) ?_ (by assumption) ?_
            rotate_left
            · (intro w hSw; (try dsimp only at hSw); obtain ⟨hS1, hS2⟩ := hSw; go_simp; with_reducible rfl)
            simp only [Act.put, List.setIfInBounds_toArray, List.set_cons_zero, List.set_cons_succ]
            refine up_run (v := ?_) 11 49 [12, 13, 14, 15] rfl rfl (by kernel_rfl) (by kernel_rfl) (by kernel_rfl) (by kernel_rfl) (fun _ _ _ h => h) (by rfl) ?_ (by assumption) ?_
            rotate_left
            · (intro w hSw; (try dsimp only at hSw); obtain ⟨hS1, hS2⟩ := hSw; go_simp; with_reducible rfl)
            simp only [Act.put, List.setIfInBounds_toArray, List.set_cons_zero, List.set_cons_succ]
            refine up_pure (v := ?_) 12 50 rfl rfl (by kernel_rfl) (by kernel_rfl) (by kernel_rfl) (by kernel_rfl) (fun _ _ _ h => h) (by rfl) ?_ ?_
            rotate_left
            · (intro w; go_simp; with_reducible rfl)
            simp only [Act.put, List.setIfInBounds_toArray, List.set_cons_zero, List.set_cons_succ]
            refine up_one 13 (by kernel_rfl) rfl (fun K hK => ?_)
            go_simp
            refine hK.out _ _ (fun h => absurd h (by decide)) ?_
            clear hK K
            try simp only [Act.put, List.setIfInBounds_toArray, List.set_cons_zero, List.set_cons_succ]
            refine up_pure (v := ?_) 14 51 rfl rfl (by kernel_rfl) (by kernel_rfl) (by kernel_rfl) (by kernel_rfl) (fun _ _ _ h => h) (by rfl) ?_ ?_
            rotate_left
            · (intro w; go_simp; with_reducible rfl)
            simp only [Act.put, List.setIfInBounds_toArray, List.set_cons_zero, List.set_cons_succ]
            have d3 : (w5.setCell ⟨rb, k, none⟩ (.slice o2 l2 c2)).cell? ⟨rb, f, none⟩ = some (.slice o2 l2 c2) := (World.cell?_setCell_other (h := fun e => by simp at e <;> omega) ..).trans d2
            have q3 := HRA.out.thaw f
            refine up_one 15 (by kernel_rfl) rfl (fun K hK => ?_)
            go_simp
            refine hK.out _ _ (fun h => absurd h (by decide)) ?_
            clear hK K
            try simp only [Act.put, List.setIfInBounds_toArray, List.set_cons_zero, List.set_cons_succ]
            refine up_done (by kernel_rfl) ?_
            have HNE : Hid (T ≠ rb ∧ T + 1 ≠ rb ∧ w.heap.size ≠ rb ∧ w.heap.size ≠ T ∧ w.heap.size ≤ T) := by have h1 := HDB.out.1; have h2 := HDB.out.2.1; have h3 := HDB.out.2.2.1; have h4 := HDB.out.2.2.2; show _ ∧ _; omega
            have HT7 : Hid (BoxL ((w5.setCell ⟨rb, k, none⟩ (.slice o2 l2 c2)).setCell ⟨rb, f, none⟩ (.slice o1 l1 c1)) T (.bool tn) (.slice tO tL tC)) := ⟨(HT5.out.1.other (B := rb) HNE.out.1 k _).other (B := rb) HNE.out.1 f _, by simpa using HT5.out.2⟩
            have HL7 : Hid (BoxL ((w5.setCell ⟨rb, k, none⟩ (.slice o2 l2 c2)).setCell ⟨rb, f, none⟩ (.slice o1 l1 c1)) (T + 1) (.bool ln) (.slice lO lL lC)) := ⟨(HL5.out.1.other (B := rb) HNE.out.2.1 k _).other (B := rb) HNE.out.2.1 f _, by simpa using HL5.out.2⟩
            have X27 : Hid (BoxL ((w5.setCell ⟨rb, k, none⟩ (.slice o2 l2 c2)).setCell ⟨rb, f, none⟩ (.slice o1 l1 c1)) w.heap.size (.bool false) (.slice none 0 0)) := ⟨(X25.out.1.other (B := rb) HNE.out.2.2.1 k _).other (B := rb) HNE.out.2.2.1 f _, by simpa using X25.out.2⟩
            have NT7 := hide ((NT5.out.grownS (grownBy_set w5 rb k (.slice o2 l2 c2)) HRD5.out.all).grownS (grownBy_set _ rb f (.slice o1 l1 c1)) HRA.out.all)
            have NL7 := hide ((NL5.out.grownS (grownBy_set w5 rb k (.slice o2 l2 c2)) HRD5.out.all).grownS (grownBy_set _ rb f (.slice o1 l1 c1)) HRA.out.all)
            have HBAR7 := hide ((HBAR.out.swap hlt hfn).congr fun i j _ _ => ent_swap hkR hfR hlt i j)
            have HP7 : Hid (ent ((R.set k R[f]).set f R[k]) k k ≠ 0) := by show _ ≠ _; rw [ent_swap hkR hfR hlt]; unfold swapRows; rw [if_pos rfl]; exact HF0.out
            have HRL7 : Hid (((R.set k R[f]).set f R[k]).length = n) := by show _ = _; rw [List.length_set, List.length_set]; exact HRL.out
            have HRR7 : Hid (∀ u ∈ (R.set k R[f]).set f R[k], u.length = n) := fun u hu => by
              rcases List.mem_or_eq_of_mem_set hu with hu | rfl
              · rcases List.mem_or_eq_of_mem_set hu with hu | rfl
                · exact HRR.out u hu
                · exact HRR.out _ (List.getElem_mem hfR)
              · exact HRR.out _ (List.getElem_mem hkR)
            generalize ((w5.setCell ⟨rb, k, none⟩ (.slice o2 l2 c2)).setCell ⟨rb, f, none⟩ (.slice o1 l1 c1)) = W7 at *
            generalize (R.set k R[f]).set f R[k] = R7 at *
            clear d1 d2 d3 q1 q3 HRA HRD5 HT5 HL5 NT5 NL5 X25 HB5 hHeld
            obtain ⟨t0, t1, t2, t3⟩ := HT7.out.1
            go_wp2_with fail
            refine (neg_any W7.drew _ t 2 (by exact NT7.out.below (Below.refl W7.heap.size W7).drew (Nat.le_refl _)) (by omega)).mono ?_
            rintro e w8 ⟨v8, rfl, hv8, hb8'⟩
            obtain ⟨⟨zn, zO, zL, zC⟩, rfl⟩ := hv8.nm
            have hb8 : Below W7.heap.size W7 w8 := (Below.refl _ _).drew.trans (hb8'.mono (by simp))
            have HT8 := hide (HT7.out.later hb8); have HL8 := hide (HL7.out.later hb8); have X28 := hide (X27.out.later hb8); have NL8 := hide (NL7.out.below hb8 (Nat.le_refl _)); have HR8 := hide (HRB2.out.later hb8); have N8 := hide hv8
            have HR9 := hide (HR8.out.setBox (y := .bool zn) (z := .slice zO zL zC) HT8.out.1 HNE.out.1 HDB.out.2.1 (by omega) HNE.out.2.2.2.2 (by simp) (by simp))
            have HK : Hid (DetK w ((w8.setCell ⟨T, 0, none⟩ (.bool zn)).setCell ⟨T, 1, none⟩ (.slice zO zL zC)) lo rb T n nv k ms) := ⟨HDB.out.1, HDB.out.2.1, HDB.out.2.2.1, HDB.out.2.2.2, ⟨(X28.out.1.other (B := T) HNE.out.2.2.2.1 _ _).other (B := T) HNE.out.2.2.2.1 _ _, by simpa using X28.out.2⟩, R7, -t, last, _, HRL7.out, HRR7.out, HBAR7.out, HP7.out, HR9.out, ⟨_, _, _, _, ⟨HT8.out.1.write _ _, by simpa using HT8.out.2⟩, N8.out.wrote HT8.out.1 (by simp) (by simp)⟩, ⟨_, _, _, _, ⟨(HL8.out.1.other (B := T) (by omega) _ _).other (B := T) (by omega) _ _, by simpa using HL8.out.2⟩, NL8.out.wrote HT8.out.1 (by simp) (by simp)⟩⟩
            have HB9 := hide HR9.out.below
            clear t0 t1 t2 t3
            obtain ⟨t0, t1, t2, t3⟩ := HT8.out.1
            clear hv8 hb8 hb8' HR8 N8
            go_wp2
            go_meet
            case rel => exact ⟨rfl, rfl, HK.out, HB9.out⟩
        case rest =>
        clear HRL HRR HBAR HF0 HRD5 HT5 HL5 NT5 NL5 X25 HB5 HDB
        obtain ⟨rfl, rfl, hK, hB⟩ := hcut
        obtain ⟨kb, kl, kr, kn, kres, R1, t1, last1, P1, hRl, hRr, hBar, hPv, hRD, htb, hlb⟩ := hK
        have HRL := hide hRl; have HRR := hide hRr; have HBAR := hide hBar; have HPV := hide hPv
        have HDB := hide (And.intro kb (And.intro kl (And.intro kr kn)))
        have HJ0 : Hid (DetJ w wc lo rb T n nv k 0 R1 t1 last1 P1) := ⟨kres, ⟨R1, hRl, hRr, fun _ _ => rfl, fun a b h1 h2 => by omega, hRD⟩, htb, hlb⟩
        have HBC := hide hB
        clear kb kl kr kn kres hRl hRr hBar hPv hRD htb hlb hB
        generalize wc = WC at *
        go_wp2
        go_loopw [58] (fun x wr => ∃ i : Nat, k + 1 + i ≤ n ∧ x = .int .i64 i ∧ Hid (DetJ w wr lo rb T n nv k i R1 t1 last1 P1) ∧ Hid (Below w.heap.size w wr)) (fun x _ => n - (intOf x).toNat)
        case atStart => exact ⟨0, by omega, rfl, HJ0, HBC⟩
        case round =>
          clear HJ0 HBC
          obtain ⟨i, hi, rfl, HJ, HBW⟩ := hrel
          by_cases hin : k + 1 + i < n
          · have gi : decide ((i : Int) < (ms.length : Int) - (k : Int) - 1) = true := decide_eq_true (by have := HM.out; omega)
            obtain ⟨p, hp⟩ : ∃ p : Nat, k + 1 + i = p := ⟨_, rfl⟩
            have g2 : IntKind.i64.wrap ((k : Int) + 1) = ((k + 1 : Nat) : Int) := by rw [IntKind.wrap_i64]; omega
            have g3 : IntKind.i64.wrap (((k + 1 : Nat) : Int) + (i : Int)) = (p : Int) := by rw [IntKind.wrap_i64]; omega
            have g4 : (k : Int) + 1 + (i : Int) = (p : Int) := by omega
            have g5 : IntKind.i64.wrap (p : Int) = (p : Int) := by rw [IntKind.wrap_i64]; omega
            have gk : k < ms.length := by have := HM.out; omega
            have gp : p < ms.length := by have := HM.out; omega
            have HP := hide hp
            obtain ⟨R2, hl2, hr2, hs2, hc2, hRD2⟩ := HJ.out.ex
            obtain ⟨ln, lO, lL, lC, hL, hnl⟩ := HJ.out.lb
            have hk2 : k < R2.length := by omega
            have hp2 : p < R2.length := by omega
            obtain ⟨o1, l1, c1, d1, v1, -⟩ := hRD2.row k R2[k] (List.getElem?_eq_getElem hk2)
            obtain ⟨o2, l2, c2, d2, v2, -⟩ := hRD2.row p R2[p] (List.getElem?_eq_getElem hp2)
            have ek : R2[k] = R1.getD k [] := by rw [← hs2 k (Or.inl (Nat.le_refl k)), List.getD_eq_getElem?_getD, List.getElem?_eq_getElem hk2, Option.getD_some]
            have ep : R2[p] = R1.getD p [] := by rw [← hs2 p (Or.inr (by omega)), List.getD_eq_getElem?_getD, List.getElem?_eq_getElem hp2, Option.getD_some]
            have hk1 := hr2 _ (List.getElem_mem hk2)
            have hp1 := hr2 _ (List.getElem_mem hp2)
            rw [ek] at v1 hk1
            rw [ep] at v2 hp1
            have HV1 := hide v1; have HV2 := hide v2; have HK1 := hide hk1; have HP1 := hide hp1; have HNL := hide hnl; have HRB2 := hide hRD2.lt; have HLT := hide hL.2
            obtain ⟨b0, b1, -, -⟩ := hL.1
            have HTH := hide hRD2
            clear v1 v2 hk1 hp1 hnl hL ek ep hs2 hc2 hr2 hRD2 hp
            go_wp2_with fail
            refine up_start (A := fun j => decide (j = 8 ∨ j = 15 ∨ j = 17 ∨ j = 18)) (S := (fun w' => w'.cell? ⟨rb, k, none⟩ = some (.slice o1 l1 c1) ∧ w'.cell? ⟨rb, p, none⟩ = some (.slice o2 l2 c2) ∧ w'.cell? ⟨T + 1, 0, none⟩ = some (.bool ln) ∧ w'.cell? ⟨T + 1, 1, none⟩ = some (.slice lO lL lC))) (by kernel_rfl) (by exact ⟨d1, d2, b0, b1⟩) (fun hHeld => ?_)
            refine up_pure (v := ?_) 0 61 rfl rfl (by kernel_rfl) (by kernel_rfl) (by kernel_rfl) (by kernel_rfl) (fun _ _ _ h => h) (by rfl) ?_ ?_
            rotate_left
            · (intro w; go_simp; with_reducible rfl)
            simp only [Act.put, List.setIfInBounds_toArray, List.set_cons_zero, List.set_cons_succ]
            refine up_pure (v := ?_) 1 62 rfl rfl (by kernel_rfl) (by kernel_rfl) (by kernel_rfl) (by kernel_rfl) (fun _ _ _ h => h) (by rfl) ?_ ?_
            rotate_left
            · (intro w; go_simp; with_reducible rfl)
            simp only [Act.put, List.setIfInBounds_toArray, List.set_cons_zero, List.set_cons_succ]
            refine up_pure (v := ?_) 2 63 rfl rfl (by kernel_rfl) (by kernel_rfl) (by kernel_rfl) (by kernel_rfl) (fun _ _ _ h => h) (by rfl) ?_ ?_
            rotate_left
            · (intro w; go_simp; with_reducible rfl)
            simp only [Act.put, List.setIfInBounds_toArray, List.set_cons_zero, List.set_cons_succ]
            refine up_pure (v := ?_) 3 64 rfl rfl (by kernel_rfl) (by kernel_rfl) (by kernel_rfl) (by kernel_rfl) (fun _ _ _ h => h) (by rfl) ?_ ?_
            rotate_left
            · (intro w; go_simp; with_reducible rfl)
            simp only [Act.put, List.setIfInBounds_toArray, List.set_cons_zero, List.set_cons_succ]
            refine up_pure (v := ?_) 4 65 rfl rfl (by kernel_rfl) (by kernel_rfl) (by kernel_rfl) (by kernel_rfl) (fun _ _ _ h => h) (by rfl) ?_ ?_
            rotate_left
            · (intro w; go_simp; with_reducible rfl)
            simp only [Act.put, List.setIfInBounds_toArray, List.set_cons_zero, List.set_cons_succ]
            refine up_pure (v := ?_) 5 66 rfl rfl (by kernel_rfl) (by kernel_rfl) (by kernel_rfl) (by kernel_rfl) (fun _ _ _ h => h) (by rfl) ?_ ?_
            rotate_left
            · (intro w; go_simp; with_reducible rfl)
            simp only [Act.put, List.setIfInBounds_toArray, List.set_cons_zero, List.set_cons_succ]
            refine up_pure (v := ?_) 6 67 rfl rfl (by kernel_rfl) (by kernel_rfl) (by kernel_rfl) (by kernel_rfl) (fun _ _ _ h => h) (by rfl) ?_ ?_
            rotate_left
            · (intro w; go_simp; with_reducible rfl)
            simp only [Act.put, List.setIfInBounds_toArray, List.set_cons_zero, List.set_cons_succ]
            refine up_pure (v := ?_) 7 68 rfl rfl (by kernel_rfl) (by kernel_rfl) (by kernel_rfl) (by kernel_rfl) (fun _ _ _ h => h) (by rfl) ?_ ?_
            rotate_left
            · (intro w; go_simp; with_reducible rfl)
            simp only [Act.put, List.setIfInBounds_toArray, List.set_cons_zero, List.set_cons_succ]
            refine up_pure (v := ?_) 9 70 rfl rfl (by kernel_rfl) (by kernel_rfl) (by kernel_rfl) (by kernel_rfl) (fun _ _ _ h => h) (by rfl) ?_ ?_
            rotate_left
            · (intro w; go_simp; with_reducible rfl)
            simp only [Act.put, List.setIfInBounds_toArray, List.set_cons_zero, List.set_cons_succ]
            refine up_pure (v := ?_) 10 71 rfl rfl (by kernel_rfl) (by kernel_rfl) (by kernel_rfl) (by kernel_rfl) (fun _ _ _ h => h) (by rfl) ?_ ?_
            rotate_left
            · (intro w; go_simp; with_reducible rfl)
            simp only [Act.put, List.setIfInBounds_toArray, List.set_cons_zero, List.set_cons_succ]
            refine up_pure (v := ?_) 11 72 rfl rfl (by kernel_rfl) (by kernel_rfl) (by kernel_rfl) (by kernel_rfl) (fun _ _ _ h => h) (by rfl) ?_ ?_
            rotate_left
            · (intro w; go_simp; with_reducible rfl)
            simp only [Act.put, List.setIfInBounds_toArray, List.set_cons_zero, List.set_cons_succ]
            refine up_pure (v := ?_) 12 73 rfl rfl (by kernel_rfl) (by kernel_rfl) (by kernel_rfl) (by kernel_rfl) (fun _ _ _ h => h) (by rfl) ?_ ?_
            rotate_left
            · (intro w; go_simp; with_reducible rfl)
            simp only [Act.put, List.setIfInBounds_toArray, List.set_cons_zero, List.set_cons_succ]
            refine up_pure (v := ?_) 13 74 rfl rfl (by kernel_rfl) (by kernel_rfl) (by kernel_rfl) (by kernel_rfl) (fun _ _ _ h => h) (by rfl) ?_ ?_
            rotate_left
            · (intro w; go_simp; with_reducible rfl)
            simp only [Act.put, List.setIfInBounds_toArray, List.set_cons_zero, List.set_cons_succ]
            refine up_pure (v := ?_) 14 75 rfl rfl (by kernel_rfl) (by kernel_rfl) (by kernel_rfl) (by kernel_rfl) (fun _ _ _ h => h) (by rfl) ?_ ?_
            rotate_left
            · (intro w; go_simp; with_reducible rfl)
            simp only [Act.put, List.setIfInBounds_toArray, List.set_cons_zero, List.set_cons_succ]
            refine up_pure (v := ?_) 16 77 rfl rfl (by kernel_rfl) (by kernel_rfl) (by kernel_rfl) (by kernel_rfl) (fun _ _ _ h => h) (by rfl) ?_ ?_
            rotate_left
            · (intro w; go_simp; with_reducible rfl)
            simp only [Act.put, List.setIfInBounds_toArray, List.set_cons_zero, List.set_cons_succ]
            refine up_run (v := ?_) 8 69 [18, 19, 20] rfl rfl (by kernel_rfl) (by kernel_rfl) (by kernel_rfl) (by kernel_rfl) (fun _ _ _ h => h) (by rfl) ?_ (by assumption) ?_
            rotate_left
            · (intro w hSw; (try dsimp only at hSw); obtain ⟨hS1, hS2, hS3, hS4⟩ := hSw; go_simp; with_reducible rfl)
            simp only [Act.put, List.setIfInBounds_toArray, List.set_cons_zero, List.set_cons_succ]
            refine up_run (v := ?_) 15 76 [18, 19, 20] rfl rfl (by kernel_rfl) (by kernel_rfl) (by kernel_rfl) (by kernel_rfl) (fun _ _ _ h => h) (by rfl) ?_ (by assumption) ?_
            rotate_left
            · (intro w hSw; (try dsimp only at hSw); obtain ⟨hS1, hS2, hS3, hS4⟩ := hSw; go_simp; with_reducible rfl)
            simp only [Act.put, List.setIfInBounds_toArray, List.set_cons_zero, List.set_cons_succ]
            refine up_run (v := ?_) 17 78 [18, 19, 20] rfl rfl (by kernel_rfl) (by kernel_rfl) (by kernel_rfl) (by kernel_rfl) (fun _ _ _ h => h) (by rfl) ?_ (by assumption) ?_
            rotate_left
            · (intro w hSw; (try dsimp only at hSw); obtain ⟨hS1, hS2, hS3, hS4⟩ := hSw; go_simp; with_reducible rfl)
            simp only [Act.put, List.setIfInBounds_toArray, List.set_cons_zero, List.set_cons_succ]
            refine up_one 18 (by kernel_rfl) rfl (fun K hK => ?_)
            go_simp
            refine (cleared_any wr.drew _ _ ln lO lL lC (R1.getD k []) (R1.getD p []) (bord (k + 1) P1 p) last1 n k (n * nv + 2) (n * nv + 2) (by exact HV1.out.below (Below.refl wr.heap.size wr).drew (Nat.le_refl _)) (by exact HV2.out.below (Below.refl wr.heap.size wr).drew (Nat.le_refl _)) (by exact HNL.out.below (Below.refl wr.heap.size wr).drew (Nat.le_refl _)) HK1.out HP1.out hkn (by omega) HBAR.out.ne (by omega) (fun j h1 h2 => HBAR.out.goes hkn (by omega) (by omega) h1 h2) (fun j h1 h2 => bord_small HBAR.out.small (by omega) h8 (by omega) h2)).mono ?_
            rintro e w1 ⟨Q, rfl, hO⟩
            have hb1 : Below wr.heap.size wr w1 := (Below.refl _ _).drew.trans (hO.below.mono (by simp))
            have e1 := (hb1.cell (p := ⟨rb, k, none⟩) HRB2.out).trans d1
            have e2 := (hb1.cell (p := ⟨rb, p, none⟩) HRB2.out).trans d2
            have e3 := (hb1.cell (p := ⟨T + 1, 0, none⟩) HLT.out).trans b0
            have e4 := (hb1.cell (p := ⟨T + 1, 1, none⟩) HLT.out).trans b1
            have HJ1 : Hid (DetJ w (w1.setCell ⟨rb, p, none⟩ (.slice (some ⟨Q, 0, none⟩) n n)) lo rb T n nv k (i + 1) R1 t1 last1 P1) := by
              have hv := hO.vec
              rw [clrL_len] at hv
              exact HJ.out.step hb1 HP.out (by omega) HDB.out.1 HDB.out.2.2.1 HDB.out.2.2.2 hv (by have := hO.low; simpa using this)
            have HB1 : Hid (Below w.heap.size w (w1.setCell ⟨rb, p, none⟩ (.slice (some ⟨Q, 0, none⟩) n n))) := by obtain ⟨R3, -, -, -, -, h⟩ := HJ1.out.ex; exact h.below
            have q1 := (HTH.out.later hb1).thaw p
            rw [clrL_len]
            clear hO hb1
            go_wp2_with fail
            refine hK.out _ _ (fun _ => ⟨e1, e2, e3, e4⟩) ?_
            clear hK K hHeld
            try simp only [Act.put, List.setIfInBounds_toArray, List.set_cons_zero, List.set_cons_succ]
            refine up_pure (v := ?_) 19 80 rfl rfl (by kernel_rfl) (by kernel_rfl) (by kernel_rfl) (by kernel_rfl) (fun _ _ _ h => h) (by rfl) ?_ ?_
            rotate_left
            · (intro w; go_simp; with_reducible rfl)
            simp only [Act.put, List.setIfInBounds_toArray, List.set_cons_zero, List.set_cons_succ]
            refine up_one 20 (by kernel_rfl) rfl (fun K hK => ?_)
            go_simp
            refine hK.out _ _ (fun h => absurd h (by decide)) ?_
            clear hK K
            try simp only [Act.put, List.setIfInBounds_toArray, List.set_cons_zero, List.set_cons_succ]
            refine up_done (by kernel_rfl) ?_
            clear d1 d2 b0 b1 e1 e2 e3 e4 q1 HV1 HV2 HNL HTH HJ HBW
            go_wp2
            go_roundw
            case rel => exact ⟨i + 1, by omega, by go_num, HJ1, HB1⟩
            case measure => simp [intOf]; omega
          · have gi : decide ((i : Int) < (ms.length : Int) - (k : Int) - 1) = false := decide_eq_false (by have := HM.out; omega)
            have gk : k < ms.length := by have := HM.out; omega
            obtain ⟨R2, hl2, hr2, hs2, hc2, hRD2⟩ := HJ.out.ex
            obtain ⟨ln, lO, lL, lC, hL, hnl⟩ := HJ.out.lb
            have hk2 : k < R2.length := by omega
            obtain ⟨o1, l1, c1, d1, v1, -⟩ := hRD2.row k R2[k] (List.getElem?_eq_getElem hk2)
            have ek : R2[k] = R1.getD k [] := by rw [← hs2 k (Or.inl (Nat.le_refl k)), List.getD_eq_getElem?_getD, List.getElem?_eq_getElem hk2, Option.getD_some]
            have hk1 := hr2 _ (List.getElem_mem hk2)
            rw [ek] at v1 hk1
            obtain ⟨vb, voff, vcap, ev⟩ := v1.form (by omega)
            simp only [Value.slice.injEq] at ev
            obtain ⟨rfl, rfl, rfl⟩ := ev
            obtain ⟨lf, f1, f2, f3, f4, cf0, cf1, nx⟩ := v1.at k (by omega)
            have hkl : k < (R1.getD k []).length := by omega
            have NX := hide nx
            have HFIN := hide (HJ.out.fin hl2 hr2 hc2 hRD2 HBAR.out HPV.out hkn (by omega) HDB.out nx)
            obtain ⟨b0, b1, b2, b3⟩ := hL.1
            clear v1 hk1 hnl hL ek hs2 hc2 hr2 hRD2 nx hl2
            go_wp2
            go_roundw
            case rel => exact ⟨k + 1, by omega, by go_num, hide HFIN.out.1, hide HFIN.out.2⟩
            case measure => simp [intOf]; omega
    · obtain rfl : k = n := by omega
      have g1 : ¬ k < ms.length := by have := HM.out; omega
      obtain ⟨t0, t1, -, -⟩ := HT.out.1; obtain ⟨l0, l1, -, -⟩ := HL.out.1
      go_wp2_with fail
      refine (mul_any wr _ _ t last 2 (k * nv + 2) (by exact HNT.out) (by exact HNL.out) (by omega) (by omega)).mono ?_
      rintro e w6 ⟨v6, rfl, hv6, hb6⟩
      rw [HBAR.out.fin] at hv6
      obtain ⟨⟨zn, zO, zL, zC⟩, rfl⟩ := hv6.nm
      have X26 := hide (X2.out.later hb6)
      have HB6 := hide (HBW.out.trans (hb6.mono HBW.out.size))
      have Z := hide (X26.out.1.write (.bool zn) (.slice zO zL zC))
      have HN6 := hide (hv6.wrote (v0 := .bool zn) (v1 := .slice zO zL zC) X26.out.1 (by simp) (by simp))
      have HB7 := hide ((HB6.out.setCell (p := ⟨w.heap.size, 0, none⟩) (Nat.le_refl _) (.bool zn)).setCell (p := ⟨w.heap.size, 1, none⟩) (Nat.le_refl _) (.slice zO zL zC))
      obtain ⟨x0, x1, x2, x3⟩ := X26.out.1
      obtain ⟨z0, z1, -, -⟩ := Z.out
      clear hv6 hb6
      go_wp2
      exact bodyPost_ret (v := .tuple #[.agg #[.bool zn, .slice zO zL zC], .nilIface]) (by simp [results, Tryz.results12, go_sem, z0, z1]) rfl ⟨_, rfl, HN6.out, HB7.out⟩

end Go.Proofs.YtdedolkgcdlmeaaGreatDoor
