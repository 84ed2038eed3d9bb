/- HermiteSays, walked: the one form is what the document's words say. -/
import Derived.Test.YtjblidoilphifabGreatDoorHermR
import Derived.Test.YtjblidoilphifabGreatDoorRefK
import Derived.Test.YtjblidoilphifabGreatDoorRefS
import Derived.Test.YtjblidoilphifabGreatDoorOneForm
import Derived.Test.YtjblidoilphifabGreatDoorHermite
import Derived.Test.YtjblidoilphifabGreatDoorParseA
namespace Go.Proofs.YtjblidoilphifabGreatDoor
open Go.RowKit Limbs Digs

theorem bp_dp (k : Nat) : bp k ≤ dp (3 * k) := by
  induction k with
  | zero => exact (by decide : (1 : Int) ≤ 1)
  | succ k ih =>
    have e : 3 * (k + 1) = 3 * k + 3 := by omega
    rw [e]
    show 4294967296 * bp k ≤ dp (3 * k + 3)
    have e2 : dp (3 * k + 3) = 10000 * (10000 * (10000 * dp (3 * k))) := rfl
    rw [e2]
    have := bp_pos k
    omega

theorem RowR.fits {w : World} {v : Value} {zs : List Int} {n m : Nat} (h : RowR w v zs n) (hz : ∀ j, j < zs.length → -dp m < zs.getD j 0 ∧ zs.getD j 0 < dp m) : RowR w v zs m := by
  obtain ⟨ao, cap, hv, h3, h4⟩ := h
  refine ⟨ao, cap, hv, h3, fun h0 => ?_⟩
  obtain ⟨b, cur, fz', e, hh, hc⟩ := h4 h0
  refine ⟨b, cur, fz', e, hh, fun i hi => ?_⟩
  obtain ⟨s, o, l, c', h5, h6, h7⟩ := hc i hi
  exact ⟨s, o, l, c', h5, h6, h7.fits (hz i hi).1 (hz i hi).2⟩

theorem MatR.fits {w : World} {v : Value} {zss : List (List Int)} {n m : Nat} (h : MatR w v zss n) (hz : ∀ zs ∈ zss, ∀ j, j < zs.length → -dp m < zs.getD j 0 ∧ zs.getD j 0 < dp m) : MatR w v zss m := by
  obtain ⟨ao, cap, hv, h3, h4⟩ := h
  refine ⟨ao, cap, hv, h3, fun h0 => ?_⟩
  obtain ⟨b, e, hlt, hc⟩ := h4 h0
  refine ⟨b, e, hlt, fun i zs hi => ?_⟩
  obtain ⟨u, h5, h6⟩ := hc i zs hi
  exact ⟨u, h5, h6.fits (hz zs (List.mem_of_getElem? hi))⟩

/-- Numbers of so many limbs are not too great. -/
theorem MatN.small {w : World} {v : Value} {zss : List (List Int)} {n : Nat} (h : MatN w v zss n) : ∀ zs ∈ zss, ∀ j, j < zs.length → -dp (3 * n) < zs.getD j 0 ∧ zs.getD j 0 < dp (3 * n) := fun zs hzs j hj => by
  obtain ⟨i, hi, e⟩ := List.getElem_of_mem hzs
  obtain ⟨b, off, cap', e1, hlt, u, hc, hu⟩ := h.at i hi
  rw [e] at hu
  obtain ⟨b', off', cap2, e2⟩ := hu.form (by omega)
  subst e2
  obtain ⟨-, neg, o, l, c, -, -, hz⟩ := hu.at j hj
  have h1 := hz.ab_lt
  have h2 := bp_dp n
  unfold ab at h1
  split at h1 <;> omega

theorem closed_two {hs : List (List Int)} {p : Nat → Nat} (h : FormL 2 hs p) (ha : Alikes 2 (InL hs) (InL [[4, 6], [2, 4]])) : hs = [[2, 0], [0, 2]] := by
  refine formL_one h (p' := fun k => k) ⟨fun r hr => ?_, ⟨fun i k hik hk => hik, fun i hi => hi, fun i b hi hb => ?_, fun i hi => ?_, fun i k hik hk => ?_⟩⟩ ?_
  · simp only [List.mem_cons, List.mem_nil_iff, or_false] at hr
    rcases hr with rfl | rfl <;> rfl
  · have hi' : i < 2 := hi
    obtain rfl : i = 1 := by omega
    obtain rfl : b = 0 := by omega
    rfl
  · have hi' : i < 2 := hi
    rcases (by omega : i = 0 ∨ i = 1) with rfl | rfl <;> decide
  · have hk' : k < 2 := hk
    obtain rfl : i = 0 := by omega
    obtain rfl : k = 1 := by omega
    decide
  · have g1 : Gens 2 (InL [[2, 0], [0, 2]]) [2, 0] := .base (List.mem_cons_self) rfl
    have g2 : Gens 2 (InL [[2, 0], [0, 2]]) [0, 2] := .base (List.mem_cons_of_mem _ (List.mem_singleton.2 rfl)) rfl
    have k1 : Gens 2 (InL [[4, 6], [2, 4]]) [4, 6] := .base (List.mem_cons_self) rfl
    have k2 : Gens 2 (InL [[4, 6], [2, 4]]) [2, 4] := .base (List.mem_cons_of_mem _ (List.mem_singleton.2 rfl)) rfl
    refine ha.trans (.of (fun v hv _ => ?_) (fun v hv _ => ?_))
    · have hv' : v = [4, 6] ∨ v = [2, 4] := by simpa [InL] using hv
      rcases hv' with rfl | rfl
      · exact Gens.comb 2 3 g1 g2
      · exact Gens.comb 1 2 g1 g2
    · have hv' : v = [2, 0] ∨ v = [0, 2] := by simpa [InL] using hv
      rcases hv' with rfl | rfl
      · exact Gens.comb 2 (-3) k1 k2
      · exact Gens.comb (-1) 2 k1 k2

theorem txt_two : txt 2 = [50] := by
  unfold txt Lib.itoa
  rw [if_neg (by decide), show (2 : Int).toNat = 2 from rfl, Lib.decDigits, dif_pos (by decide)]
  rfl

theorem text20 : vtxt [2, 0] = [40, 50, 32, 48, 41] := by
  unfold vtxt
  rw [List.map_cons, List.map_cons, List.map_nil, txt_zero, txt_two]
  rfl

theorem text02 : vtxt [0, 2] = [40, 48, 32, 50, 41] := by
  unfold vtxt
  rw [List.map_cons, List.map_cons, List.map_nil, txt_zero, txt_two]
  rfl

theorem two_rowsH (w : World) (va vb : Value) (xs ys : List Int) (n : Nat) (ha : VecN w va xs n) (hb : VecN w vb ys n) : MatN (w.alloc (.cells #[va, vb] 23)) (.slice (some ⟨w.heap.size, 0, none⟩) 2 2) [xs, ys] n := by
  have hbA : Below w.heap.size w (w.alloc (.cells #[va, vb] 23)) := (Below.refl _ _).alloc (Nat.le_refl _) _
  refine ⟨_, _, rfl, Nat.le_refl _, fun _ => ⟨_, _, rfl, by simp, fun i zs hi => ?_⟩⟩
  have hlt := (List.getElem?_eq_some_iff.1 hi).1
  match i, hlt with
  | 0, _ =>
    simp only [List.getElem?_cons_zero, Option.some.injEq] at hi
    subst hi
    exact ⟨va, by rw [World.cell?_alloc_new]; rfl, ha.below hbA (Nat.le_refl _)⟩
  | 1, _ =>
    simp only [List.getElem?_cons_succ, List.getElem?_cons_zero, Option.some.injEq] at hi
    subst hi
    exact ⟨vb, by rw [World.cell?_alloc_new]; rfl, hb.below hbA (Nat.le_refl _)⟩

theorem row_two (w : World) (x y : Int) (hx : -1000 ≤ x ∧ x ≤ 1000) (hy : -1000 ≤ y ∧ y ≤ 1000) : RowS (w.alloc (.cells #[.int .i64 x, .int .i64 y] 3)) (.slice (some ⟨w.heap.size, 0, none⟩) 2 2) [x, y] := by
  refine ⟨_, _, rfl, Nat.le_refl _, fun i => ?_, fun _ => ⟨_, _, rfl, by simp, fun i hi => ?_⟩⟩
  · match i with
    | 0 => simp; omega
    | 1 => simp; omega
    | i + 2 => simp
  · match i, hi with
    | 0, _ => rw [World.cell?_alloc_new]; rfl
    | 1, _ => rw [World.cell?_alloc_new]; rfl

set_option linter.unusedSimpArgs false in
set_option maxRecDepth 100000 in
set_option maxHeartbeats 3200000 in
theorem mats_any (w : World) (ht : Tab w) : Calls Tryz.prog 35 #[] w fun e w' => e = .returned (.bool true) ∧ Below w.heap.size w w' := by
  have HT := hide ht
  clear ht
  have HO1 := hide (ofV_any _ _ [4, 6] (row_two w 4 6 (by decide) (by decide)) (by decide))
  have HB0 : Hid (Below w.heap.size w (w.alloc (.cells #[.int .i64 4, .int .i64 6] 3))) := (Below.refl _ _).alloc (Nat.le_refl _) _
  go_enter Tryz.func35, Tryz.ntmps35
  go_wp2_with fail
  refine HO1.out.mono ?_
  rintro e w1 ⟨P1, rfl, ho1⟩
  have HV1 := hide ho1.vec
  have HB1 := hide (HB0.out.trans (ho1.below.mono (by simp)))
  rw [show ([4, 6] : List Int).length = 2 from rfl]
  have HO2 := hide (ofV_any _ _ [2, 4] (row_two w1 2 4 (by decide) (by decide)) (by decide))
  have HB1a : Hid (Below w1.heap.size w1 (w1.alloc (.cells #[.int .i64 2, .int .i64 4] 3))) := (Below.refl _ _).alloc (Nat.le_refl _) _
  clear ho1 HO1 HB0
  go_wp2_with fail
  refine HO2.out.mono ?_
  rintro e w2 ⟨P2, rfl, ho2⟩
  have hb12 := HB1a.out.trans (ho2.below.mono (by simp))
  have HV2 := hide ho2.vec
  have HV1' := hide (HV1.out.below hb12 (Nat.le_refl _))
  have HB2 := hide (HB1.out.trans (hb12.mono HB1.out.size))
  rw [show ([2, 4] : List Int).length = 2 from rfl]
  have HM2 := hide (two_rowsH w2 _ _ [4, 6] [2, 4] 2 HV1'.out HV2.out)
  have HHE : Hid (Calls Tryz.prog 37 #[.slice (some ⟨w2.heap.size, 0, none⟩) 2 2, .int .i64 2] (w2.alloc (.cells #[.slice (some ⟨P1, 0, none⟩) 2 2, .slice (some ⟨P2, 0, none⟩) 2 2] 23)) fun e w' => HermPost (w2.alloc (.cells #[.slice (some ⟨P1, 0, none⟩) 2 2, .slice (some ⟨P2, 0, none⟩) 2 2] 23)) 2 2 [[4, 6], [2, 4]] e w') :=
    hermite_any _ _ [[4, 6], [2, 4]] 2 2 HM2.out (fun us h => by simp only [List.mem_cons, List.mem_nil_iff, or_false] at h; rcases h with rfl | rfl <;> rfl) (by decide) (by decide) (by decide) (by decide)
  have HB2a : Hid (Below w2.heap.size w2 (w2.alloc (.cells #[.slice (some ⟨P1, 0, none⟩) 2 2, .slice (some ⟨P2, 0, none⟩) 2 2] 23))) := (Below.refl _ _).alloc (Nat.le_refl _) _
  clear ho2 hb12 HV2 HV1 HV1' HO2 HM2 HB1 HB1a
  go_wp2_with fail
  refine HHE.out.mono ?_
  rintro e w3 ⟨u3, hs, p, rfl, h1, h2, h3, h4, h5⟩
  obtain rfl := closed_two h4 h5
  have hb3 : Below w2.heap.size w2 w3 := HB2a.out.trans (h3.mono (by simp))
  have HB3 := hide (HB2.out.trans (hb3.mono HB2.out.size))
  obtain ⟨ob, ooff, ocap, rfl, olt, uv, cv, hv⟩ := h1.at 0 (by decide)
  obtain ⟨_, _, _, e, -, uv', cv', hv'⟩ := h1.at 1 (by decide)
  simp only [Value.slice.injEq, Option.some.injEq, Addr.mk.injEq, and_true, true_and] at e
  obtain ⟨⟨rfl, rfl⟩, rfl⟩ := e
  have HTX : Hid (Calls Tryz.prog 31 #[uv] w3 fun e w' => e = .returned (.string ⟨#[40, 50, 32, 48, 41]⟩) ∧ Below w3.heap.size w3 w') := by
    have := vtext_any w3 uv [2, 0] _ (HT.out.below HB3.out) hv (by decide) (by decide) (by decide) (by
      rw [List.map_cons, List.map_cons, List.map_nil, txt_zero, txt_two]
      decide)
    rw [text20] at this
    exact this
  have HTY : Hid (∀ w4, Below w3.heap.size w3 w4 → Calls Tryz.prog 31 #[uv'] w4 fun e w' => e = .returned (.string ⟨#[40, 48, 32, 50, 41]⟩) ∧ Below w4.heap.size w4 w') := fun w4 hb => by
    have := vtext_any w4 uv' [0, 2] _ ((HT.out.below HB3.out).below hb) (hv'.below hb (Nat.le_refl _)) (by decide) (by decide) (by decide) (by
      rw [List.map_cons, List.map_cons, List.map_nil, txt_zero, txt_two]
      decide)
    rw [text02] at this
    exact this
  rw [show ([[2, 0], [0, 2]] : List (List Int)).length = 2 from rfl]
  rw [Nat.add_zero] at cv
  obtain ⟨vo, vcap, rfl, -, -⟩ := hv
  obtain ⟨vo', vcap', rfl, -, -⟩ := hv'
  clear h1 h2 h3 h4 h5 HHE hb3 HB2a HB2
  go_wp2_with fail
  refine (same_zero w3).mono ?_
  rintro e w3' ⟨rfl, rfl⟩
  go_wp2_with fail
  refine HTX.out.mono ?_
  rintro e w4 ⟨rfl, hb4⟩
  have cv4 := (hb4.cell (p := ⟨ob, ooff + 1, none⟩) olt).trans cv'
  have HB4 := hide hb4
  have olt4 := Nat.lt_of_lt_of_le olt hb4.size
  clear hb4 cv cv' HTX
  go_wp2_with fail
  refine (HTY.out w4 HB4.out).mono ?_
  rintro e w5 ⟨rfl, hb5⟩
  have HB5 := hide (HB3.out.trans ((HB4.out.trans (hb5.mono HB4.out.size)).mono HB3.out.size))
  clear hb5 HTY
  go_wp2
  go_ret
  exact ⟨rfl, HB5.out⟩

set_option maxRecDepth 100000 in
theorem hermite_bad (w : World) (v : Value) (rss : List (List Raw)) (n c : Int) (hv : MatL w v rss) (hc : checkedM rss n = .iface 76 (.int .i64 c)) :
    Calls Tryz.prog 37 #[v, .int .i64 n] w fun e w' => e = .returned (.tuple #[.slice none 0 0, .iface 76 (.int .i64 c)]) ∧ Below w.heap.size w w' := by
  have HC := hide (checkM_any w v rss n hv)
  rw [hc] at HC
  obtain ⟨ao, cap, rfl, -, -⟩ := hv
  clear hc
  go_enter Tryz.func37, Tryz.ntmps37
  go_wp2_with fail
  refine HC.out.mono ?_
  rintro e w1 ⟨rfl, hb1⟩
  have HB1 := hide hb1
  clear hb1 HC
  go_wp2
  go_ret2
  exact ⟨rfl, HB1.out⟩

set_option linter.unusedSimpArgs false in
set_option maxRecDepth 100000 in
set_option maxHeartbeats 3200000 in
theorem hermiteSays_any (w : World) (ht : Tab w) (vm : Value) (nI : Int) {rss : List (List Raw)} (hC : MatC w vm rss) :
    Calls Tryz.prog 4 #[vm, .int .i64 nI] w fun e w' => e = .returned (.bool true) ∧ Below w.heap.size w w' := by
  have HT := hide ht; have HC := hide hC
  obtain ⟨mo, mcap, rfl, -, -, -⟩ := hC
  clear ht
  go_enter Tryz.func4, Tryz.ntmps4
  go_wp2_with fail
  refine (mats_any w HT.out).mono ?_
  rintro e w1 ⟨rfl, hb1⟩
  have HB1 := hide hb1
  have HLM := hide (lightM_any w1 _ rss 40 (HC.out.below hb1) (lightM rss 40) rfl)
  clear hb1
  cases hlm : lightM rss 40
  · rw [hlm] at HLM
    clear hlm
    go_wp2_with fail
    refine HLM.out.mono ?_
    rintro e w1' ⟨rfl, rfl⟩
    go_wp2
    go_ret
    exact ⟨rfl, HB1.out⟩
  · rw [hlm] at HLM
    obtain ⟨h14, hlv⟩ := lightM_parts hlm
    have HML := hide (HC.out.light hlv)
    go_wp2_with fail
    refine HLM.out.mono ?_
    rintro e w1' ⟨rfl, rfl⟩
    go_wp2_with fail
    refine (matFault_any _ _ rss nI (HML.out.below HB1.out (Nat.le_refl _))).mono ?_
    rintro e w2 ⟨rfl, hb2⟩
    have HB2 := hide (HB1.out.trans (hb2.mono HB1.out.size))
    clear hb2 HLM
    rcases fault_same rss nI with ⟨hc0, hf0⟩ | ⟨c, hc0, hck, hfk⟩
    · rw [hf0]
      obtain ⟨hn1, hn8, hm12, hrs⟩ := checkedM_nil.1 hc0
      obtain ⟨n, rfl⟩ : ∃ n : Nat, nI = (n : Int) := ⟨nI.toNat, by omega⟩
      have hMN := HML.out.toN (n := 8) (fun rs h => (hrs rs h).2) (fun rs h => lightV_eight (hlv rs h))
      have HCH := hide (fun (w' : World) (hb : Below w.heap.size w w') => checkM_any w' _ rss (n : Int) (HML.out.below hb (Nat.le_refl _)))
      rw [hc0] at HCH
      obtain ⟨ms, hms⟩ : ∃ ms, rss.map (·.map Raw.z) = ms := ⟨_, rfl⟩
      have hlen : rss.length = ms.length := by rw [← hms, List.length_map]
      have hml : ∀ us ∈ ms, us.length = n := fun us h => by
        rw [← hms] at h
        obtain ⟨rs, h1, rfl⟩ := List.mem_map.1 h
        rw [List.length_map]
        have := (hrs rs h1).1
        omega
      rw [hms, hlen] at hMN
      rw [hlen] at HCH
      rw [hlen]
      replace hm12 : ms.length ≤ 12 := by omega
      replace hn1 : 1 ≤ n := by omega
      replace hn8 : n ≤ 8 := by omega
      have HM := hide hMN; have HRL := hide hml
      clear hms hlen hlv hlm h14 hrs HC HML hMN hml hc0 hf0
      have hnb : nbK n (n * 8 + 2) 8 n ≤ 100000 := (by decide : ∀ n, n < 9 → nbK n (n * 8 + 2) 8 n ≤ 100000) n (by omega)
      have hdt : dT 24 (ms.length + n + 1) ≤ 1000000000 := Nat.le_trans (dT_mono (show ms.length + n + 1 ≤ 21 by omega)) (by decide)
      have HHE := hide (hermite_any w2 _ ms n 8 (HM.out.below HB2.out (Nat.le_refl _)) HRL.out hn1 hn8 hm12 hnb)
      have HDT := hide hdt
      clear hnb hdt
      go_wp2_with fail
      refine HHE.out.mono ?_
      rintro e w3 ⟨vh, hs, p, rfl, h1, h2, h3, h4, h5⟩
      have HH := hide h1; have HF := hide h4; have HA := hide h5
      have HB3 := hide (HB2.out.trans (h3.mono HB2.out.size))
      have HHL := hide h4.len
      clear h3 h4 h5 HHE
      obtain ⟨ho, hcap, rfl, -, -⟩ := h1
      go_wp2_with fail
      refine (HCH.out w3 HB3.out).mono ?_
      rintro e w4 ⟨rfl, hb4⟩
      have HB4 := hide (HB3.out.trans (hb4.mono HB3.out.size))
      have HH4 := hide (HH.out.below hb4 (Nat.le_refl _))
      clear hb4 HCH HH
      go_wp2_with fail
      refine (same_zero w4).mono ?_
      rintro e w4' ⟨rfl, rfl⟩
      go_wp2_with fail
      refine (same_zero _).mono ?_
      rintro e w4'' ⟨rfl, rfl⟩
      go_wp2_with fail
      refine (fromMat_any _ _ ms 8 (HM.out.below HB4.out (Nat.le_refl _)) (by decide) (by omega) (fun zs h => by rw [HRL.out zs h]; omega)).mono ?_
      rintro e w5 ⟨u5, rfl, hu5, hb5⟩
      have HU5 := hide hu5
      have HB5 := hide (HB4.out.trans (hb5.mono HB4.out.size))
      have HH5 := hide (HH4.out.below hb5 (Nat.le_refl _))
      have HHR := hide (hermiteR_any w5 u5 ms n 24 hu5 HRL.out hn1 (by omega) (by omega) HDT.out)
      clear hu5 hb5 HH4
      go_wp2_with fail
      refine HHR.out.mono ?_
      rintro e w6 ⟨u6, fs, p6, rfl, g1, g2, g3, g4, g5⟩
      obtain rfl : fs = hs := formL_one g3 HF.out (g4.trans HA.out.symm)
      have HB6 := hide (HB5.out.trans (g5.mono HB5.out.size))
      have HH6 := hide (HH5.out.below g5 (Nat.le_refl _))
      have HMO := hide (matOf_any w6 u6 fs (3 * (n * 8 + 2)) (g1.fits HH6.out.small) (by omega) (fun zs h => by rw [HHL.out zs h]; omega) (by omega))
      clear g1 g2 g3 g4 g5 HHR HH5
      go_wp2_with fail
      refine HMO.out.mono ?_
      rintro e w7 ⟨u7, rfl, k1, k2⟩
      have HB7 := hide (HB6.out.trans (k2.mono HB6.out.size))
      have HSM := hide (sameMat_any w7 _ _ fs fs _ _ (HH6.out.below k2 (Nat.le_refl _)) k1 (by omega) (fun zs hz => by rw [HHL.out zs hz]; omega) true (by simp))
      clear k1 k2 HMO HH6
      go_wp2_with fail
      refine HSM.out.mono ?_
      rintro e w8 ⟨rfl, hb8⟩
      have HB8 := hide (HB7.out.trans (hb8.mono HB7.out.size))
      clear hb8 HSM
      go_wp2
      go_ret
      exact ⟨rfl, HB8.out⟩
    · rw [hfk]
      have HHB := hide (hermite_bad w2 _ rss nI c (HML.out.below HB2.out (Nat.le_refl _)) hck)
      have HCH := hide (fun (w' : World) (hb : Below w.heap.size w w') => checkM_any w' _ rss nI (HML.out.below hb (Nat.le_refl _)))
      rw [hck] at HCH
      clear hfk hck hlv hlm
      go_wp2_with fail
      refine HHB.out.mono ?_
      rintro e w3 ⟨rfl, hb3⟩
      have HB3 := hide (HB2.out.trans (hb3.mono HB2.out.size))
      clear hb3 HHB
      go_wp2_with fail
      refine (HCH.out w3 HB3.out).mono ?_
      rintro e w4 ⟨rfl, hb4⟩
      have HB4 := hide (HB3.out.trans (hb4.mono HB3.out.size))
      clear hb4 HCH
      go_wp2_with fail
      refine (same_of c hc0 w4).mono ?_
      rintro e w4' ⟨rfl, rfl⟩
      go_wp2_with fail
      refine (same_of c hc0 _).mono ?_
      rintro e w4'' ⟨rfl, rfl⟩
      go_wp2
      go_ret
      exact ⟨rfl, HB4.out⟩

end Go.Proofs.YtjblidoilphifabGreatDoor
