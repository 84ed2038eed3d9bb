/- mat.Smith of any rows. -/
import Derived.Test.YtdedolkgcdlmeaaGreatDoorSmT
import Derived.Test.YtdedolkgcdlmeaaGreatDoorSmC
import Derived.Test.YtdedolkgcdlmeaaGreatDoorSmD
import Derived.Test.YtdedolkgcdlmeaaGreatDoorSmV
namespace Go.Proofs.YtdedolkgcdlmeaaGreatDoor
open Go.RowKit Limbs

theorem facP_less {r v : Nat} (hr : r ≤ 16) : facP r (bp v) < bp (r * v + 2) := by
  by_cases h0 : r = 0
  · subst h0
    show (1 : Int) < bp (0 * v + 2)
    rw [Nat.zero_mul]
    decide
  · have h1 := facP_lt (v := v) (Nat.le_refl r) hr
    have h2 := facP_nonneg r (B := bp v) (by have := bp_pos v; omega)
    have h3 := Int.mul_le_mul_of_nonneg_right (show (1 : Int) ≤ (r : Int) by omega) h2
    omega

theorem piv_chain {n : Nat} {hs : List (List Int)} {p : Nat → Nat} (F : FormL n hs p) {A : Nat → Nat → Int} (hA : Equ hs.length A (dgM fun i => (pivL hs p).getD i 0)) : ChI hs.length (pivL hs p) (prodN hs.length (fun k => ent hs k (p k))) A 0 1 :=
  ⟨pivL_len hs p, fun j hj => by rw [pivL_get hs p j hj]; exact F.form.pos j hj, prodN_congr fun i hi => pivL_get hs p i hi, fun i hi => absurd hi (Nat.not_lt_zero i), fun j h1 h2 => absurd h2 (by omega), hA⟩

def SmithPost (w : World) (n : Nat) (ms : List (List Int)) (e : Ending) (w' : World) : Prop :=
  ∃ (P M : Nat) (ys : List Int) (hs fs : List (List Int)) (p : Nat → Nat) (D : Int), e = .returned (.tuple #[.slice (some ⟨P, 0, none⟩) hs.length hs.length, .nilIface]) ∧ FormL n hs p ∧ Alikes n (InL hs) (InL ms) ∧ VecO w w' P ys M ∧ ChI hs.length ys D (ent fs) hs.length (hs.length + 1) ∧ TurnF n hs fs ∧ D < bp M ∧ (hs.length = n → D = diag n hs) ∧ M ≤ 100000

/-- Room for what is turned about. -/
def RoomS (n nv : Nat) : Prop := nbK n (n * nv + 2) nv n ≤ 100000 ∧ ∀ r, r ≤ n → nbK r (r * (n * nv + 2) + 2) (n * nv + 2) r ≤ 100000 ∧ (r < n → nbK r (r * (r * (n * nv + 2) + 2) + 2) (r * (n * nv + 2) + 2) r ≤ 100000)

theorem nbK_ge {n S0 nv B : Nat} (hn1 : 1 ≤ n) (hN : nbK n S0 nv n ≤ B) : S0 ≤ B := by
  have h1 : nbK n S0 nv 1 ≤ nbK n S0 nv n := nbK_mono hn1
  have h2 : nbK n S0 nv 1 = nv + (n - 0 + 1) * (S0 + 3) := rfl
  have h3 : (n - 0 + 1) * (S0 + 3) = n * (S0 + 3) + (S0 + 3) := by rw [Nat.sub_zero, Nat.succ_mul]
  omega

theorem prod_bp (r v : Nat) (f : Nat → Int) (h : ∀ i, i < r → 0 < f i ∧ f i < bp v) : 0 < prodN r f ∧ prodN r f ≤ bp (r * v) := by
  induction r with
  | zero => rw [Nat.zero_mul]; exact ⟨Int.zero_lt_one, Int.le_refl (1 : Int)⟩
  | succ r ih =>
    obtain ⟨h1, h2⟩ := ih fun i hi => h i (by omega)
    obtain ⟨h3, h4⟩ := h r (by omega)
    rw [prodN]
    refine ⟨Int.mul_pos h1 h3, ?_⟩
    rw [Nat.succ_mul, bp_add]
    exact Int.mul_le_mul h2 (Int.le_of_lt h4) (Int.le_of_lt h3) (by have := bp_pos (r * v); omega)

theorem bp_two (k : Nat) : bp k < bp (k + 2) := by
  have e : bp (k + 2) = 4294967296 * (4294967296 * bp k) := rfl
  have := bp_pos k
  rw [e]; omega

theorem VecO.fit {w W : World} {P M N r low hi : Nat} {zs : List Int} {D : Int} {A : Nat → Nat → Int} (h : VecO w W P zs N) (C : ChI r zs D A low hi) (hD : D < bp M) : VecO w W P zs M :=
  ⟨h.vec.tight fun j hj => by
    have hj' : j < r := by rw [← C.len]; exact hj
    have h1 := C.pos j hj'; have h2 := C.one_le hj'
    unfold ab
    rw [if_neg (by omega)]
    omega, h.low, h.below, h.blk⟩

theorem cols_abs {w : World} {v : Value} {hs : List (List Int)} {n N : Nat} (h : MatN w v hs N) (hl : ∀ r ∈ hs, r.length = n) : ∀ us ∈ colsL hs n, ∀ j, j < hs.length → absI (us.getD j 0) ≤ bp N := fun us hus j hj => by
  obtain ⟨i, hi, rfl⟩ := List.mem_map.1 hus
  rw [List.mem_range] at hi
  rw [map_getD0 _ _ _ hj, getD_row hj]
  exact Int.le_of_lt (h.abs _ (List.getElem_mem hj) i (by rw [hl _ (List.getElem_mem hj)]; exact hi))

theorem sq_tight {w : World} {v : Value} {H : List (List Int)} {r N M : Nat} (h : MatN w v H N) (S : Sq r H) (hD : diag r H < bp M) : MatN w v H M := h.tight fun zs hz j hj => by
  obtain ⟨k, hk, e⟩ := List.getElem_of_mem hz
  have hl := S.form.len zs hz
  have h1 := S.ent_le (k := k) (b := j) (by rw [← S.len]; exact hk) (by omega)
  unfold ent at h1
  rw [getD_row hk, e] at h1
  unfold ab
  rw [if_neg (by omega)]
  omega

theorem piv_diag {n : Nat} {hs : List (List Int)} {p : Nat → Nat} (F : FormL n hs p) (hl : hs.length = n) : prodN hs.length (fun k => ent hs k (p k)) = diag n hs := by
  unfold diag
  rw [hl]
  exact prodN_congr fun i hi => by rw [sq_piv F hl i hi]

set_option linter.unusedSimpArgs false in
set_option maxRecDepth 100000 in
set_option maxHeartbeats 3200000 in
theorem smith_any (w : World) (v : Value) (ms : List (List Int)) (n nv : Nat) (hv : MatN w v ms nv) (hr : ∀ us ∈ ms, us.length = n) (hn1 : 1 ≤ n) (hn : n ≤ 8) (hm : ms.length ≤ 12) (hR : RoomS n nv) :
    Calls Tryz.prog 19 #[v, .int .i64 (n : Int)] w fun e w' => SmithPost w n ms e w' := by
  have HC := hide (checkM_ok w v ms n nv hv hn1 hn hm hr)
  have HV := hide hv; have HR := hide hr; have HRO := hide hR
  obtain ⟨ao, cap, rfl, -, -⟩ := hv
  clear hr hR
  go_enter Tryz.func19, Tryz.ntmps19
  go_wp2_with fail
  refine HC.out.mono ?_
  rintro e w1 ⟨rfl, hbe1⟩
  have HE1 := hide hbe1
  clear hbe1 HC
  go_wp2_with fail
  refine (oneForm_any w1 _ ms n nv (HV.out.below HE1.out (Nat.le_refl _)) HR.out hn1 (by omega) (by omega) HRO.out.1).mono ?_
  rintro e w2 ⟨u2, hs, p, rfl, h1, h2, h3, h4, h5⟩
  have HU2 := hide h1; have HF := hide h4; have HA := hide h5
  have HE2 := hide (HE1.out.trans (h3.mono HE1.out.size))
  obtain ⟨ho, hcap, rfl, -, -⟩ := h1
  obtain ⟨hr1, hr2⟩ := HRO.out.2 hs.length h2
  have HR1 := hide hr1
  clear h3 h5 HE1 hr1
  have HDN : Hid (hs.length = n → diag n hs < bp (n * nv + 2)) := fun hl => by
    have h6 := (sq_of HF.out hl).bound HA.out HR.out (B := bp nv) (by have := bp_pos nv; omega) (fun us hus j hj => Int.le_of_lt (HV.out.abs us hus j (by rw [HR.out us hus]; exact hj)))
    have h7 := facP_less (r := n) (v := nv) (by omega)
    omega
  generalize hN0 : n * nv + 2 = N0 at *
  have hN02 : 2 ≤ N0 := by omega
  have hN03 : N0 ≤ 100000 := nbK_ge hn1 (by have := HRO.out.1; rw [hN0] at this; exact this)
  obtain ⟨M, hM2, hM3, HR2, HPB, HCB⟩ : ∃ M, 2 ≤ M ∧ M ≤ 100000 ∧ Hid (nbK hs.length (hs.length * M + 2) M hs.length ≤ 100000) ∧ Hid (prodN hs.length (fun k => ent hs k (p k)) ≤ bp (hs.length * N0) → prodN hs.length (fun k => ent hs k (p k)) < bp M) ∧ Hid (∀ D : Int, D < bp (hs.length * N0 + 2) → (hs.length = n → D = diag n hs) → D < bp M) := by
    by_cases hl : hs.length = n
    · refine ⟨N0, hN02, hN03, ?_, fun _ => ?_, fun D _ h => ?_⟩
      · exact HR1.out
      · rw [piv_diag HF.out hl]; exact HDN.out hl
      · rw [h hl]; exact HDN.out hl
    · have h8 := bp_two (hs.length * N0)
      refine ⟨hs.length * N0 + 2, by omega, ?_, hr2 (by omega), fun h => Int.lt_of_le_of_lt h h8, fun D h _ => h⟩
      by_cases h0 : hs.length = 0
      · rw [h0]; omega
      · exact nbK_ge (by omega) HR1.out
  obtain ⟨WW, hWW⟩ : ∃ WW : Nat, WW = 2 * (bp M).toNat + 2 := ⟨_, rfl⟩
  have HWW := hide hWW
  clear hWW hN0 hr2 h4
  go_wp2
  go_loopg [7, 8, 29] (WW ^ hs.length) (fun gk u pl t wr => (gk = WW ^ hs.length ∧ t = undef ∧ pl = .int .i64 n ∧ Hid (MatN wr u hs N0) ∧ Hid (Below w.heap.size w wr)) ∨ (∃ H, t = .int .i64 (hs.length : Int) ∧ pl = .int .i64 (hs.length : Int) ∧ Hid (gk = muS WW hs.length H) ∧ Hid (MatN wr u H M) ∧ Hid (Sq hs.length H) ∧ Hid (diag hs.length H < bp M) ∧ Hid (hs.length = n → diag hs.length H = diag n hs) ∧ Hid (∃ gs, TurnF n hs gs ∧ (Equ hs.length (ent gs) (ent H) ∨ Equ hs.length (trM (ent gs)) (ent H))) ∧ Hid (Below w.heap.size w wr)))
  case atStart => exact .inl ⟨rfl, rfl, rfl, HU2, HE2⟩
  case round =>
    clear HU2 HE2
    rcases hrel with ⟨hgk, rfl, rfl, HU, HE⟩ | ⟨H, rfl, rfl, HGK, HU, HSQ, HDI, HEQ, HTG, HE⟩
    · have HGK := hide hgk
      clear hgk
      have HPA := hide (pivotsAlone_any wr _ n N0 hs p HU.out HF.out (by omega) (by omega))
      go_wp2_with fail
      refine HPA.out.mono ?_
      rintro e w3 ⟨r, rfl, hr, hb3⟩
      have HU3 := hide (HU.out.below hb3 (Nat.le_refl _))
      have HE3 := hide (HE.out.trans (hb3.mono HE.out.size))
      clear hb3 HPA HU HE
      cases r with
      | true =>
        obtain ⟨gs, hgs, hge⟩ := alone_turn HF.out (hr.1 rfl)
        have HGS := hide hgs
        have HCH := hide (piv_chain HF.out hge)
        clear hgs hge
        have HDB : Hid (prodN hs.length (fun k => ent hs k (p k)) < bp M) := by
          have h3 := prod_bp hs.length N0 (fun k => ent hs k (p k)) fun i hi => by
            have h4 := HF.out.form.pos i hi
            have h5 := HU3.out.abs _ (List.getElem_mem hi) (p i) (by rw [HF.out.len _ (List.getElem_mem hi)]; exact HF.out.form.lt i hi)
            have h6 : 0 < ent hs i (p i) := h4
            have h7 : ent hs i (p i) = hs[i].getD (p i) 0 := by unfold ent; rw [getD_row hi]
            rw [← h7] at h5
            unfold ab at h5
            rw [if_neg (by omega)] at h5
            exact ⟨h6, h5⟩
          exact HPB.out h3.2
        clear hr
        go_wp2_with fail
        refine (pivots_any w3 _ n N0 hs p HU3.out HF.out (by omega) (by omega)).mono ?_
        rintro e w4 ⟨P, rfl, hv4⟩
        rw [pivL_len]
        have HV4 := hide ((hv4.fit HCH.out HDB.out).since HE3.out)
        clear hv4
        go_wp2_with fail
        refine (chained_pos w w4 P hs.length M _ _ _ HV4.out HCH.out HDB.out (by omega) hM2 hM3).mono ?_
        rintro e w5 ⟨ys, rfl, hv5, hc5⟩
        have HP := hide (show SmithPost w n ms (.returned (.tuple #[.slice (some ⟨P, 0, none⟩) hs.length hs.length, .nilIface])) w5 from ⟨P, M, ys, hs, gs, p, _, rfl, HF.out, HA.out, hv5, hc5, HGS.out, HDB.out, fun h => piv_diag HF.out h, hM3⟩)
        clear hv5 hc5 HV4
        go_wp2
        go_ret2
        exact HP.out
      | false =>
        have hlen : 1 ≤ hs.length := by
          by_cases h0 : hs.length = 0
          · exact absurd (hr.2 fun i hi => by omega) (by decide)
          · omega
        clear hr
        obtain ⟨uo, ucap, hu, -, -⟩ := HU3.out
        subst hu
        go_wp2_with fail
        refine (turned_any w3 _ n N0 hs HU3.out HF.out.len (by omega) (by omega)).mono ?_
        rintro e w4 ⟨O, vs, ps, rfl, ho4, hp4⟩
        have HM4 := hide (ho4.mat (colsL hs n) (colsL_length hs n) (fun i hi => by rw [hp4 i hi, colsL_get hs n i hi]; rfl))
        have HE4 := hide (HE3.out.trans (ho4.low.mono HE3.out.size))
        clear ho4 hp4 HE3
        go_wp2_with fail
        refine (oneForm_any w4 _ (colsL hs n) hs.length N0 HM4.out (colsL_len hs n) hlen (by omega) (by rw [colsL_length]; omega) HR1.out).mono ?_
        rintro e w5 ⟨u5, fs, p5, rfl, g1, g2, g3, g4, g5⟩
        have hsq : Sq hs.length fs := sq_of g4 (cols_count HF.out g5 g2)
        have HSQ := hide hsq
        have HTF : Hid (TurnF n hs fs) := ⟨hsq.len, g4.len, hsq.free, g5⟩
        have HEQ : Hid (hs.length = n → diag hs.length fs = diag n hs) := fun hl => by
          have s0 := sq_of HF.out hl
          rw [hl] at g4 g5 ⊢
          exact (s0.step g4 g5).2
        have HDI : Hid (diag hs.length fs < bp M) := by
          have h1 := hsq.bound g5 (colsL_len hs n) (B := bp N0) (by have := bp_pos N0; omega) (cols_abs HU3.out HF.out.len)
          have h2 := facP_less (r := hs.length) (v := N0) (by omega)
          exact HCB.out _ (by omega) HEQ.out
        have HU5 := hide (sq_tight g1 hsq HDI.out)
        have HE5 := hide (HE4.out.trans (g3.mono HE4.out.size))
        clear g1 g2 g3 g4 g5 HE4 HM4 hsq
        go_wp2
        go_roundg (muS WW hs.length fs)
        case measure =>
          rw [HGK.out]
          refine horn_top hs.length (code_lt HSQ.out ?_)
          have h1 := HDI.out; have h2 := HWW.out; have h3 := HSQ.out.one_le
          omega
        case rel => exact .inr ⟨fs, rfl, rfl, hide rfl, HU5, HSQ, HDI, HEQ, ⟨fs, HTF.out, .inl (.refl _)⟩, HE5⟩
    · have HID := hide HSQ.out.form
      have HIL := hide HSQ.out.len
      have HPA := hide (pivotsAlone_any wr _ hs.length M H (fun k => k) HU.out HID.out (by omega) (by rw [HIL.out]; omega))
      go_wp2_with fail
      refine HPA.out.mono ?_
      rintro e w3 ⟨r, rfl, hr, hb3⟩
      have HU3 := hide (HU.out.below hb3 (Nat.le_refl _))
      have HE3 := hide (HE.out.trans (hb3.mono HE.out.size))
      clear hb3 HPA HU HE
      cases r with
      | true =>
        obtain ⟨gs, hgs, hge⟩ := HTG.out
        have HTF := hide hgs
        have hge2 := equ_done HSQ.out (fun k hk => hr.1 rfl k (by rw [HIL.out]; exact hk)) hge
        clear hgs hge
        have hch := piv_chain HID.out (A := ent gs) (by rw [HIL.out]; exact hge2)
        rw [HIL.out] at hch
        have HCH := hide hch
        clear hr hch hge2
        go_wp2_with fail
        refine (pivots_any w3 _ hs.length M H (fun k => k) HU3.out HID.out (by omega) (by rw [HIL.out]; omega)).mono ?_
        rintro e w4 ⟨P, rfl, hv4⟩
        rw [pivL_len, HIL.out]
        have HV4 := hide (hv4.since HE3.out)
        clear hv4
        go_wp2_with fail
        refine (chained_pos w w4 P hs.length M _ _ _ HV4.out HCH.out HDI.out (by omega) hM2 hM3).mono ?_
        rintro e w5 ⟨ys, rfl, hv5, hc5⟩
        have HP := hide (show SmithPost w n ms (.returned (.tuple #[.slice (some ⟨P, 0, none⟩) hs.length hs.length, .nilIface])) w5 from ⟨P, M, ys, hs, gs, p, _, rfl, HF.out, HA.out, hv5, hc5, HTF.out, HDI.out, HEQ.out, hM3⟩)
        clear hv5 hc5 HV4
        go_wp2
        go_ret2
        exact HP.out
      | false =>
        have HNO : Hid (¬ ∀ k, k < hs.length → rowAl hs.length H k) := fun h => by
          have := hr.2 fun i hi b h1 h2 => h i (by rw [← HIL.out]; exact hi) b h1 h2
          cases this
        have hlen : 1 ≤ hs.length := by
          by_cases h0 : hs.length = 0
          · exact absurd (fun k hk => by omega) HNO.out
          · omega
        clear hr
        obtain ⟨uo, ucap, hu, -, -⟩ := HU3.out
        subst hu
        go_wp2_with fail
        refine (turned_any w3 _ hs.length M H HU3.out HID.out.len (by omega) (by rw [HIL.out]; omega)).mono ?_
        rintro e w4 ⟨O, vs, ps, rfl, ho4, hp4⟩
        have HM4 := hide (ho4.mat (colsL H hs.length) (colsL_length H hs.length) (fun i hi => by rw [hp4 i hi, colsL_get H hs.length i hi]; rfl))
        have HE4 := hide (HE3.out.trans (ho4.low.mono HE3.out.size))
        clear ho4 hp4 HE3
        go_wp2_with fail
        rw [HIL.out]
        refine (oneForm_any w4 _ (colsL H hs.length) hs.length M HM4.out (fun us h => by rw [colsL_len H hs.length us h, HIL.out]) hlen (by omega) (by rw [colsL_length]; omega) HR2.out).mono ?_
        rintro e w5 ⟨u5, fs, p5, rfl, g1, g2, g3, g4, g5⟩
        obtain ⟨s1, s2⟩ := HSQ.out.step g4 g5
        have HS1 := hide s1
        have HTG1 := hide (equ_turn HSQ.out s1 g5 HTG.out)
        have HMU : Hid (muS WW hs.length fs < muS WW hs.length H) := mu_lt HSQ.out s1 s2 g5 (by have h1 := HDI.out; have h2 := HWW.out; have h3 := HSQ.out.one_le; omega) HNO.out
        have HD1 : Hid (diag hs.length fs < bp M) := by show _ < _; rw [s2]; exact HDI.out
        have HEQ1 : Hid (hs.length = n → diag hs.length fs = diag n hs) := fun h => by rw [s2]; exact HEQ.out h
        have HU5 := hide (sq_tight g1 s1 HD1.out)
        have HE5 := hide (HE4.out.trans (g3.mono HE4.out.size))
        clear g1 g2 g3 g4 g5 HE4 HM4 s1 s2
        go_wp2
        go_roundg (muS WW hs.length fs)
        case measure => rw [HGK.out]; exact HMU.out
        case rel => exact .inr ⟨fs, rfl, rfl, hide rfl, HU5, HS1, HD1, HEQ1, HTG1, HE5⟩

end Go.Proofs.YtdedolkgcdlmeaaGreatDoor
