/- mat.Smith of any rows. -/
import Derived.Test.YtdedolkgcdlmeaaGreatDoorSmT
import Derived.Test.YtdedolkgcdlmeaaGreatDoorSmC
import Derived.Test.YtdedolkgcdlmeaaGreatDoorBehL
import Derived.Test.YtdedolkgcdlmeaaGreatDoorSmV
import Derived.Test.YtdedolkgcdlmeaaGreatDoorShare
import Derived.Test.YtdedolkgcdlmeaaGreatDoorSmR
import Derived.Test.YtdedolkgcdlmeaaGreatDoorSmX
import Derived.Test.YtdedolkgcdlmeaaGreatDoorMatLt

namespace Go.Proofs.YtdedolkgcdlmeaaGreatDoor
open Go.RowKit Limbs

theorem facP_less {r v : Nat} (hr : r ≤ 16) : facP r (bp v) < bp (r * v + 2) := by
 by_cases h0 : r = 0
 ·subst h0
  show (1 : Int) < bp (0 * v + 2)
  rw [Nat.zero_mul]
  decide
 ·have h1 := facP_lt (v := v) (Nat.le_refl r) hr
  have h2 := facP_nonneg r (B := bp v) (by have := bp_pos v; omega)
  have h3 := Int.mul_le_mul_of_nonneg_right (show (1 : Int) ≤ (r : Int) by omega) h2
  omega

theorem piv_chain {n : Nat} {hs : List (List Int)} {p : Nat → Nat} (F : FormL n hs p) {A : Nat → Nat → Int} (hA : Equ hs.length A (dgM fun i => (pivL hs p).getD i 0)) : ChI hs.length (pivL hs p) (prodN hs.length (fun k => ent hs k (p k))) A 0 1 :=
 ⟨pivL_len hs p, fun j hj => by rw [pivL_get hs p j hj]; exact F.form.pos j hj, prodN_congr fun i hi => pivL_get hs p i hi, fun i hi => absurd hi (Nat.not_lt_zero i), fun j h1 h2 => absurd h2 (by omega), hA⟩

def SmithPost (w : World) (n : Nat) (ms : List (List Int)) (e : Ending) (w' : World) : Prop :=
 ∃ (P M : Nat) (ys : List Int) (hs fs : List (List Int)) (p : Nat → Nat) (D : Int), e = .returned (.tuple #[.slice (some ⟨P, 0, none⟩) hs.length hs.length, .nilIface]) ∧ FormL n hs p ∧ Alikes n (InL hs) (InL ms) ∧ VecO w w' P ys M ∧ ChI hs.length ys D (ent fs) hs.length (hs.length + 1) ∧ TurnF n hs fs ∧ D < bp M ∧ (hs.length = n → D = diag n hs) ∧ M ≤ 100000

def RoomS (n nv : Nat) : Prop := nbK n (n * nv + 2) nv n ≤ 119000 ∧ ∀ r, r ≤ n → nbK r (r * (n * nv + 2) + 2) (n * nv + 2) r ≤ 119000 ∧ (r < n → nbK r (r * (r * (n * nv + 2) + 2) + 2) (r * (n * nv + 2) + 2) r ≤ 119000)

theorem nbK_ge {n S0 nv B : Nat} (hn1 : 1 ≤ n) (hN : nbK n S0 nv n ≤ B) : 2 * S0 ≤ B := by
 have h1 : nbK n S0 nv 1 ≤ nbK n S0 nv n := nbK_mono hn1
 have h2 : nbK n S0 nv 1 = nv + (n - 0 + 1) * (S0 + 3) := rfl
 have h3 : (n - 0 + 1) * (S0 + 3) = n * (S0 + 3) + (S0 + 3) := by rw [Nat.sub_zero, Nat.succ_mul]
 have h4 := Nat.mul_le_mul_right (S0 + 3) hn1
 omega

theorem prod_bp (r v : Nat) (f : Nat → Int) (h : ∀ i, i < r → 0 < f i ∧ f i < bp v) : 0 < prodN r f ∧ prodN r f ≤ bp (r * v) := by
 induction r with
 | zero => rw [Nat.zero_mul]; exact ⟨Int.zero_lt_one, Int.le_refl (1 : Int)⟩
 | succ r ih =>
  obtain ⟨h1, h2⟩ := ih fun i hi => h i (by omega)
  obtain ⟨h3, h4⟩ := h r (by omega)
  rw [prodN]
  refine ⟨Int.mul_pos h1 h3, ?_⟩
  rw [Nat.succ_mul, bp_add]
  exact Int.mul_le_mul h2 (Int.le_of_lt h4) (Int.le_of_lt h3) (by have := bp_pos (r * v); omega)

theorem bp_two (k : Nat) : bp k < bp (k + 2) := by
 have e : bp (k + 2) = 4294967296 * (4294967296 * bp k) := rfl
 have := bp_pos k
 rw [e]; omega

theorem VecO.fit {w W : World} {P M N r low hi : Nat} {zs : List Int} {D : Int} {A : Nat → Nat → Int} (h : VecO w W P zs N) (C : ChI r zs D A low hi) (hD : D < bp M) : VecO w W P zs M :=
 ⟨h.vec.tight fun j hj => by
  have hj' : j < r := by rw [← C.len]; exact hj
  have h1 := C.pos j hj'; have h2 := C.one_le hj'
  unfold ab
  rw [if_neg (by omega)]
  omega, h.low, h.below, h.blk⟩

theorem cols_abs {w : World} {v : Value} {hs : List (List Int)} {n N : Nat} (h : MatN w v hs N) (hl : ∀ r ∈ hs, r.length = n) : ∀ us ∈ colsL hs n, ∀ j, j < hs.length → absI (us.getD j 0) ≤ bp N := fun us hus j hj => by
 obtain ⟨i, hi, rfl⟩ := List.mem_map.1 hus
 rw [List.mem_range] at hi
 rw [map_getD0 _ _ _ hj, getD_row hj]
 exact Int.le_of_lt (h.abs _ (List.getElem_mem hj) i (by rw [hl _ (List.getElem_mem hj)]; exact hi))

theorem sq_tight {w : World} {v : Value} {H : List (List Int)} {r N M : Nat} (h : MatN w v H N) (S : Sq r H) (hD : diag r H < bp M) : MatN w v H M := h.tight fun zs hz j hj => by
 obtain ⟨k, hk, e⟩ := List.getElem_of_mem hz
 have hl := S.form.len zs hz
 have h1 := S.ent_le (k := k) (b := j) (by rw [← S.len]; exact hk) (by omega)
 unfold ent at h1
 rw [getD_row hk, e] at h1
 unfold ab
 rw [if_neg (by omega)]
 omega

theorem piv_diag {n : Nat} {hs : List (List Int)} {p : Nat → Nat} (F : FormL n hs p) (hl : hs.length = n) : prodN hs.length (fun k => ent hs k (p k)) = diag n hs := by
 unfold diag
 rw [hl]
 exact prodN_congr fun i hi => by rw [sq_piv F hl i hi]

set_option linter.unusedSimpArgs false in
set_option maxRecDepth 100000 in
set_option maxHeartbeats 3200000 in
theorem smith_any (w : World) (v : Value) (ms : List (List Int)) (n nv : Nat) (hv : MatN w v ms nv) (hr : ∀ us ∈ ms, us.length = n) (hn1 : 1 ≤ n) (hn : n ≤ 8) (hm : ms.length ≤ 12) (hR : RoomS n nv) :
  Calls Tryz.prog 19 #[v, .int .i64 (n : Int)] w fun e w' => SmithPost w n ms e w' := by
 have HC := hide (checkM_ok w v ms n nv hv hn1 hn hm hr)
 have HV := hide hv; have HR := hide hr; have HRO := hide hR
 obtain ⟨ao, cap, rfl, -, -⟩ := hv
 clear hr hR
 go_enter Tryz.func19, Tryz.ntmps19
 go_wp2_with fail
 refine HC.out.mono ?_
 rintro e w1 ⟨rfl, hbe1⟩
 have HE1 := hide hbe1
 clear hbe1 HC
 go_wp2_with fail
 refine (oneForm_more w1 _ ms n nv (HV.out.below HE1.out (Nat.le_refl _)) HR.out hn1 (by omega) (by omega) HRO.out.1).mono ?_
 rintro e w2 ⟨u2, hs, p, rfl, h1, h2, h3, h4, h5⟩
 have HU2 := hide h1; have HF := hide h4; have HA := hide h5
 have HE2 := hide (HE1.out.trans (h3.mono HE1.out.size))
 obtain ⟨ho, hcap, rfl, -, -⟩ := h1
 obtain ⟨hr1, hr2⟩ := HRO.out.2 hs.length h2
 have HR1 := hide hr1
 clear h3 h5 HE1 hr1
 have HDN : Hid (hs.length = n → diag n hs < bp (n * nv + 2)) := fun hl => by
  have h6 := (sq_of HF.out hl).bound HA.out HR.out (B := bp nv) (by have := bp_pos nv; omega) (fun us hus j hj => Int.le_of_lt (HV.out.abs us hus j (by rw [HR.out us hus]; exact hj)))
  have h7 := facP_less (r := n) (v := nv) (by omega)
  omega
 generalize hN0 : n * nv + 2 = N0 at *
 have hN02 : 2 ≤ N0 := by omega
 have hN03 : N0 ≤ 100000 := by
  have := nbK_ge hn1 (by have := HRO.out.1; rw [hN0] at this; exact this)
  omega
 obtain ⟨M, hM2, hM3, HR2, HPB, HCB⟩ : ∃ M, 2 ≤ M ∧ M ≤ 100000 ∧ Hid (nbK hs.length (hs.length * M + 2) M hs.length ≤ 119000) ∧ Hid (prodN hs.length (fun k => ent hs k (p k)) ≤ bp (hs.length * N0) → prodN hs.length (fun k => ent hs k (p k)) < bp M) ∧ Hid (∀ D : Int, D < bp (hs.length * N0 + 2) → (hs.length = n → D = diag n hs) → D < bp M) := by
  by_cases hl : hs.length = n
  ·refine ⟨N0, hN02, hN03, ?_, fun _ => ?_, fun D _ h => ?_⟩
   ·exact HR1.out
   ·rw [piv_diag HF.out hl]; exact HDN.out hl
   ·rw [h hl]; exact HDN.out hl
  ·have h8 := bp_two (hs.length * N0)
   refine ⟨hs.length * N0 + 2, by omega, ?_, hr2 (by omega), fun h => Int.lt_of_le_of_lt h h8, fun D h _ => h⟩
   by_cases h0 : hs.length = 0
   ·rw [h0]; omega
   ·have := nbK_ge (by omega) HR1.out
    omega
 obtain ⟨WW, hWW⟩ : ∃ WW : Nat, WW = 2 * (bp M).toNat + 2 := ⟨_, rfl⟩
 have HWW := hide hWW
 clear hWW hN0 hr2 h4
 go_wp2
 go_loopg [7, 8, 29] (WW ^ hs.length) (fun gk u pl t wr => (gk = WW ^ hs.length ∧ t = undef ∧ pl = .int .i64 n ∧ Hid (MatN wr u hs N0) ∧ Hid (Below w.heap.size w wr)) ∨ (∃ H, t = .int .i64 (hs.length : Int) ∧ pl = .int .i64 (hs.length : Int) ∧ Hid (gk = muS WW hs.length H) ∧ Hid (MatN wr u H M) ∧ Hid (Sq hs.length H) ∧ Hid (diag hs.length H < bp M) ∧ Hid (hs.length = n → diag hs.length H = diag n hs) ∧ Hid (∃ gs, TurnF n hs gs ∧ (Equ hs.length (ent gs) (ent H) ∨ Equ hs.length (trM (ent gs)) (ent H))) ∧ Hid (Below w.heap.size w wr)))
 case atStart => exact .inl ⟨rfl, rfl, rfl, HU2, HE2⟩
 case round =>
  clear HU2 HE2
  rcases hrel with ⟨hgk, rfl, rfl, HU, HE⟩ | ⟨H, rfl, rfl, HGK, HU, HSQ, HDI, HEQ, HTG, HE⟩
  ·have HGK := hide hgk
   clear hgk
   have HPA := hide (pivotsAlone_any wr _ n N0 hs p HU.out HF.out (by omega) (by omega))
   go_wp2_with fail
   refine HPA.out.mono ?_
   rintro e w3 ⟨r, rfl, hr, hb3⟩
   have HU3 := hide (HU.out.below hb3 (Nat.le_refl _))
   have HE3 := hide (HE.out.trans (hb3.mono HE.out.size))
   clear hb3 HPA HU HE
   cases r with
   | true =>
    obtain ⟨gs, hgs, hge⟩ := alone_turn HF.out (hr.1 rfl)
    have HGS := hide hgs
    have HCH := hide (piv_chain HF.out hge)
    clear hgs hge
    have HDB : Hid (prodN hs.length (fun k => ent hs k (p k)) < bp M) := by
     have h3 := prod_bp hs.length N0 (fun k => ent hs k (p k)) fun i hi => by
      have h4 := HF.out.form.pos i hi
      have h5 := HU3.out.abs _ (List.getElem_mem hi) (p i) (by rw [HF.out.len _ (List.getElem_mem hi)]; exact HF.out.form.lt i hi)
      have h6 : 0 < ent hs i (p i) := h4
      have h7 : ent hs i (p i) = hs[i].getD (p i) 0 := by unfold ent; rw [getD_row hi]
      rw [← h7] at h5
      unfold ab at h5
      rw [if_neg (by omega)] at h5
      exact ⟨h6, h5⟩
     exact HPB.out h3.2
    clear hr
    go_wp2_with fail
    refine (pivots_any w3 _ n N0 hs p HU3.out HF.out (by omega) (by omega)).mono ?_
    rintro e w4 ⟨P, rfl, hv4⟩
    rw [pivL_len]
    have HV4 := hide ((hv4.fit HCH.out HDB.out).since HE3.out)
    clear hv4
    go_wp2_with fail
    refine (chained_pos w w4 P hs.length M _ _ _ HV4.out HCH.out HDB.out (by omega) hM2 hM3).mono ?_
    rintro e w5 ⟨ys, rfl, hv5, hc5⟩
    have HP := hide (show SmithPost w n ms (.returned (.tuple #[.slice (some ⟨P, 0, none⟩) hs.length hs.length, .nilIface])) w5 from ⟨P, M, ys, hs, gs, p, _, rfl, HF.out, HA.out, hv5, hc5, HGS.out, HDB.out, fun h => piv_diag HF.out h, hM3⟩)
    clear hv5 hc5 HV4
    go_wp2
    go_ret2
    exact HP.out
   | false =>
    have hlen : 1 ≤ hs.length := by
     by_cases h0 : hs.length = 0
     ·exact absurd (hr.2 fun i hi => by omega) (by decide)
     ·omega
    clear hr
    obtain ⟨uo, ucap, hu, -, -⟩ := HU3.out
    subst hu
    go_wp2_with fail
    refine (turned_any w3 _ n N0 hs HU3.out HF.out.len (by omega) (by omega)).mono ?_
    rintro e w4 ⟨O, vs, ps, rfl, ho4, hp4⟩
    have HM4 := hide (ho4.mat (colsL hs n) (colsL_length hs n) (fun i hi => by rw [hp4 i hi, colsL_get hs n i hi]; rfl))
    have HE4 := hide (HE3.out.trans (ho4.low.mono HE3.out.size))
    clear ho4 hp4 HE3
    go_wp2_with fail
    refine (oneForm_more w4 _ (colsL hs n) hs.length N0 HM4.out (colsL_len hs n) hlen (by omega) (by rw [colsL_length]; omega) HR1.out).mono ?_
    rintro e w5 ⟨u5, fs, p5, rfl, g1, g2, g3, g4, g5⟩
    have hsq : Sq hs.length fs := sq_of g4 (cols_count HF.out g5 g2)
    have HSQ := hide hsq
    have HTF : Hid (TurnF n hs fs) := ⟨hsq.len, g4.len, hsq.free, g5⟩
    have HEQ : Hid (hs.length = n → diag hs.length fs = diag n hs) := fun hl => by
     have s0 := sq_of HF.out hl
     rw [hl] at g4 g5 ⊢
     exact (s0.step g4 g5).2
    have HDI : Hid (diag hs.length fs < bp M) := by
     have h1 := hsq.bound g5 (colsL_len hs n) (B := bp N0) (by have := bp_pos N0; omega) (cols_abs HU3.out HF.out.len)
     have h2 := facP_less (r := hs.length) (v := N0) (by omega)
     exact HCB.out _ (by omega) HEQ.out
    have HU5 := hide (sq_tight g1 hsq HDI.out)
    have HE5 := hide (HE4.out.trans (g3.mono HE4.out.size))
    clear g1 g2 g3 g4 g5 HE4 HM4 hsq
    go_wp2
    go_roundg (muS WW hs.length fs)
    case measure =>
     rw [HGK.out]
     refine horn_top hs.length (code_lt HSQ.out ?_)
     have h1 := HDI.out; have h2 := HWW.out; have h3 := HSQ.out.one_le
     omega
    case rel => exact .inr ⟨fs, rfl, rfl, hide rfl, HU5, HSQ, HDI, HEQ, ⟨fs, HTF.out, .inl (.refl _)⟩, HE5⟩
  ·have HID := hide HSQ.out.form
   have HIL := hide HSQ.out.len
   have HPA := hide (pivotsAlone_any wr _ hs.length M H (fun k => k) HU.out HID.out (by omega) (by rw [HIL.out]; omega))
   go_wp2_with fail
   refine HPA.out.mono ?_
   rintro e w3 ⟨r, rfl, hr, hb3⟩
   have HU3 := hide (HU.out.below hb3 (Nat.le_refl _))
   have HE3 := hide (HE.out.trans (hb3.mono HE.out.size))
   clear hb3 HPA HU HE
   cases r with
   | true =>
    obtain ⟨gs, hgs, hge⟩ := HTG.out
    have HTF := hide hgs
    have hge2 := equ_done HSQ.out (fun k hk => hr.1 rfl k (by rw [HIL.out]; exact hk)) hge
    clear hgs hge
    have hch := piv_chain HID.out (A := ent gs) (by rw [HIL.out]; exact hge2)
    rw [HIL.out] at hch
    have HCH := hide hch
    clear hr hch hge2
    go_wp2_with fail
    refine (pivots_any w3 _ hs.length M H (fun k => k) HU3.out HID.out (by omega) (by rw [HIL.out]; omega)).mono ?_
    rintro e w4 ⟨P, rfl, hv4⟩
    rw [pivL_len, HIL.out]
    have HV4 := hide (hv4.since HE3.out)
    clear hv4
    go_wp2_with fail
    refine (chained_pos w w4 P hs.length M _ _ _ HV4.out HCH.out HDI.out (by omega) hM2 hM3).mono ?_
    rintro e w5 ⟨ys, rfl, hv5, hc5⟩
    have HP := hide (show SmithPost w n ms (.returned (.tuple #[.slice (some ⟨P, 0, none⟩) hs.length hs.length, .nilIface])) w5 from ⟨P, M, ys, hs, gs, p, _, rfl, HF.out, HA.out, hv5, hc5, HTF.out, HDI.out, HEQ.out, hM3⟩)
    clear hv5 hc5 HV4
    go_wp2
    go_ret2
    exact HP.out
   | false =>
    have HNO : Hid (¬ ∀ k, k < hs.length → rowAl hs.length H k) := fun h => by
     have := hr.2 fun i hi b h1 h2 => h i (by rw [← HIL.out]; exact hi) b h1 h2
     cases this
    have hlen : 1 ≤ hs.length := by
     by_cases h0 : hs.length = 0
     ·exact absurd (fun k hk => by omega) HNO.out
     ·omega
    clear hr
    obtain ⟨uo, ucap, hu, -, -⟩ := HU3.out
    subst hu
    go_wp2_with fail
    refine (turned_any w3 _ hs.length M H HU3.out HID.out.len (by omega) (by rw [HIL.out]; omega)).mono ?_
    rintro e w4 ⟨O, vs, ps, rfl, ho4, hp4⟩
    have HM4 := hide (ho4.mat (colsL H hs.length) (colsL_length H hs.length) (fun i hi => by rw [hp4 i hi, colsL_get H hs.length i hi]; rfl))
    have HE4 := hide (HE3.out.trans (ho4.low.mono HE3.out.size))
    clear ho4 hp4 HE3
    go_wp2_with fail
    rw [HIL.out]
    refine (oneForm_more w4 _ (colsL H hs.length) hs.length M HM4.out (fun us h => by rw [colsL_len H hs.length us h, HIL.out]) hlen (by omega) (by rw [colsL_length]; omega) HR2.out).mono ?_
    rintro e w5 ⟨u5, fs, p5, rfl, g1, g2, g3, g4, g5⟩
    obtain ⟨s1, s2⟩ := HSQ.out.step g4 g5
    have HS1 := hide s1
    have HTG1 := hide (equ_turn HSQ.out s1 g5 HTG.out)
    have HMU : Hid (muS WW hs.length fs < muS WW hs.length H) := mu_lt HSQ.out s1 s2 g5 (by have h1 := HDI.out; have h2 := HWW.out; have h3 := HSQ.out.one_le; omega) HNO.out
    have HD1 : Hid (diag hs.length fs < bp M) := by show _ < _; rw [s2]; exact HDI.out
    have HEQ1 : Hid (hs.length = n → diag hs.length fs = diag n hs) := fun h => by rw [s2]; exact HEQ.out h
    have HU5 := hide (sq_tight g1 s1 HD1.out)
    have HE5 := hide (HE4.out.trans (g3.mono HE4.out.size))
    clear g1 g2 g3 g4 g5 HE4 HM4 s1 s2
    go_wp2
    go_roundg (muS WW hs.length fs)
    case measure => rw [HGK.out]; exact HMU.out
    case rel => exact .inr ⟨fs, rfl, rfl, hide rfl, HU5, HS1, HD1, HEQ1, HTG1, HE5⟩

end Go.Proofs.YtdedolkgcdlmeaaGreatDoor

/- SmithSays, walked: the invariants of rows are what the document's words say. -/
namespace Go.Proofs.YtdedolkgcdlmeaaGreatDoor
open Go.RowKit Limbs Digs

set_option maxRecDepth 100000 in
theorem smith_bad (w : World) (v : Value) (rss : List (List Raw)) (n c : Int) (hv : MatL w v rss) (hc : checkedM rss n = .iface 102 (.int .i64 c)) :
  Calls Tryz.prog 19 #[v, .int .i64 n] w fun e w' => e = .returned (.tuple #[.slice none 0 0, .iface 102 (.int .i64 c)]) ∧ Below w.heap.size w w' := by
 have HC := hide (checkM_any w v rss n hv)
 rw [hc] at HC
 obtain ⟨ao, cap, rfl, -, -⟩ := hv
 clear hc
 go_enter Tryz.func19, Tryz.ntmps19
 go_wp2_with fail
 refine HC.out.mono ?_
 rintro e w1 ⟨rfl, hb1⟩
 have HB1 := hide hb1
 clear hb1 HC
 go_wp2
 go_ret2
 exact ⟨rfl, HB1.out⟩

theorem roomS_eight : ∀ n, n < 9 → RoomS n 8 := by
 unfold RoomS
 decide +kernel

theorem inv_few {m n : Nat} {A : Nat → Nat → Int} {ys : List Int} (py : ∀ i, i < ys.length → 0 < ys.getD i 0) (hd : ∀ k g, Dv k m n A g ↔ Dv k ys.length ys.length (dgM fun i => ys.getD i 0) g) : ys.length ≤ m ∧ ys.length ≤ n := by
 have key : ∀ k, Dv (k + 1) m n A 0 → ys.length ≤ k := fun k h => by
  by_cases hk : ys.length ≤ k
  ·exact hk
  ·exfalso
   have h1 := (hd _ _).1 h (fun i => i) (fun i => i) (fun i hi => by show i < ys.length; omega) fun i hi => by show i < ys.length; omega
   rw [det_dg] at h1
   have h2 := prodN_pos (k + 1) (fun i => ys.getD i 0) fun j hj => py j (by omega)
   rw [Int.zero_dvd] at h1
   omega
 exact ⟨key m (dv_over m n A), key n ((dv_over n m (trM A)).tr)⟩

set_option linter.unusedSimpArgs false in
set_option maxRecDepth 100000 in
set_option maxHeartbeats 6400000 in
theorem smithSays_any (w : World) (ht : Tab w) (vm : Value) (nI : Int) {rss : List (List Raw)} (hC : MatC w vm rss) :
  Calls Tryz.prog 4 #[vm, .int .i64 nI] w fun e w' => e = .returned (.bool true) ∧ Below w.heap.size w w' := by
 have HT := hide ht; have HC := hide hC
 obtain ⟨mo, mcap, rfl, -, -, -⟩ := hC
 clear ht
 go_enter Tryz.func4, Tryz.ntmps4
 go_wp2_with fail
 refine (mats_any w HT.out).mono ?_
 rintro e w1 ⟨rfl, hb1⟩
 have HB1 := hide hb1
 have HLM := hide (lightM_any w1 _ rss 24 (HC.out.below hb1) (lightM rss 24) rfl)
 clear hb1
 cases hlm : lightM rss 24
 ·rw [hlm] at HLM
  clear hlm
  go_wp2_with fail
  refine HLM.out.mono ?_
  rintro e w1' ⟨rfl, rfl⟩
  go_wp2
  go_ret
  exact ⟨rfl, HB1.out⟩
 ·rw [hlm] at HLM
  obtain ⟨h14, hlv⟩ := lightM_parts hlm
  have HML := hide (HC.out.light hlv)
  go_wp2_with fail
  refine HLM.out.mono ?_
  rintro e w1' ⟨rfl, rfl⟩
  go_wp2_with fail
  refine (matFault_any _ _ rss nI (HML.out.below HB1.out (Nat.le_refl _))).mono ?_
  rintro e w2 ⟨rfl, hb2⟩
  have HB2 := hide (HB1.out.trans (hb2.mono HB1.out.size))
  clear hb2 HLM
  rcases fault_same rss nI with ⟨hc0, hf0⟩ | ⟨c, hc0, hck, hfk⟩
  ·rw [hf0]
   obtain ⟨hn1, hn8, hm12, hrs⟩ := checkedM_nil.1 hc0
   obtain ⟨n, rfl⟩ : ∃ n : Nat, nI = (n : Int) := ⟨nI.toNat, by omega⟩
   have hMN := HML.out.toN (n := 8) (fun rs h => (hrs rs h).2) (fun rs h => lightV_eight (hlv rs h))
   obtain ⟨ms, hms⟩ : ∃ ms, rss.map (·.map Raw.z) = ms := ⟨_, rfl⟩
   have hlen : rss.length = ms.length := by rw [← hms, List.length_map]
   have hml : ∀ us ∈ ms, us.length = n := fun us h => by
    rw [← hms] at h
    obtain ⟨rs, h1, rfl⟩ := List.mem_map.1 h
    rw [List.length_map]
    have := (hrs rs h1).1
    omega
   rw [hms, hlen] at hMN
   rw [hlen]
   replace hm12 : ms.length ≤ 12 := by omega
   replace hn1 : 1 ≤ n := by omega
   replace hn8 : n ≤ 8 := by omega
   have HM := hide hMN; have HRL := hide hml
   clear hms hlen hlv hlm h14 hrs HC HML hMN hml hc0 hf0
   go_wp2_with fail
   refine (smith_any w2 _ ms n 8 (HM.out.below HB2.out (Nat.le_refl _)) HRL.out hn1 hn8 hm12 (roomS_eight n (by omega))).mono ?_
   rintro e w3 ⟨P, M, ys, hs, fs, p, D, rfl, hF, hA, hO, hCh, hTF, -, -, hM3⟩
   have hdv := smith_dv hF hA HRL.out hTF hCh
   have hpos : ∀ i, i < ys.length → 0 < ys.getD i 0 := fun i hi => hCh.pos i (by rw [← hCh.len]; exact hi)
   have hch : ∀ i j, i < j → j < ys.length → ∃ p, ys.getD j 0 = p * ys.getD i 0 := fun i j h1 h2 => hCh.chain i (by rw [← hCh.len]; omega) j h1 (by rw [← hCh.len]; exact h2)
   have hfew := inv_few hpos hdv
   rw [← hCh.len]
   have HONE : Hid (∀ ds, RefSm ms ms.length n ds → (ds.length = ms.length ∨ ds.length = n ∨ Dv (ds.length + 1) ms.length n (ent ms) 0) → ds = ys) := fun ds h1 h2 => h1.one h2 hpos hch hfew hdv
   have HY := hide hO.vec
   have HB3 := hide (HB2.out.trans (hO.below.mono HB2.out.size))
   have HFEW := hide hfew
   clear hF hA hO hCh hTF hdv hpos hch hfew hs fs p D
   go_wp2_with fail
   refine (same_zero w3).mono ?_
   rintro e w4' ⟨rfl, rfl⟩
   by_cases h4 : 4 < ms.length
   ·have g4 : decide ((4 : Int) < (ms.length : Int)) = true := decide_eq_true (by omega)
    go_wp2
    go_ret
    exact ⟨rfl, HB3.out⟩
   ·have g4 : decide ((4 : Int) < (ms.length : Int)) = false := decide_eq_false (by omega)
    by_cases h5 : 4 < n
    ·have g5 : decide ((4 : Int) < (n : Int)) = true := decide_eq_true (by omega)
     go_wp2
     go_ret
     exact ⟨rfl, HB3.out⟩
    ·have g5 : decide ((4 : Int) < (n : Int)) = false := decide_eq_false (by omega)
     go_wp2_with fail
     refine (fromMat_any _ _ ms 8 (HM.out.below HB3.out (Nat.le_refl _)) (by decide) (by omega) (fun zs h => by rw [HRL.out zs h]; omega)).mono ?_
     rintro e w5 ⟨u5, rfl, hu5, hb5⟩
     have HB5 := hide (HB3.out.trans (hb5.mono HB3.out.size))
     have HY5 := hide (HY.out.below hb5 (Nat.le_refl _))
     have HSR := hide (smithR_any w5 u5 ms n hu5 HRL.out (by omega) (by omega))
     clear hu5 hb5 HY
     go_wp2_with fail
     refine HSR.out.mono ?_
     rintro e w6 ⟨u6, ds, rfl, g1, g2, g3, g6⟩
     obtain rfl : ds = ys := HONE.out ds g3 g6
     have HB6 := hide (HB5.out.trans (g2.mono HB5.out.size))
     have HY6 := hide (HY5.out.below g2 (Nat.le_refl _))
     have HU6 := hide g1
     have hds4 : ds.length ≤ 4 := by have := HFEW.out; omega
     obtain ⟨uo, ucap, rfl, -, -⟩ := g1
     have gl : ((ds.length : Int) != (ds.length : Int)) = false := by rw [bne_eq_false_iff_eq]
     have gl2 : ((ds.length : Int) == (ds.length : Int)) = true := by rw [beq_iff_eq]
     clear g2 g3 g6 HSR HY5 HONE HFEW HM HRL g4 g5
     go_wp2
     go_loopw [10] (fun i wr => ∃ k : Nat, k ≤ ds.length ∧ i = .int .i64 k ∧ Hid (Below w6.heap.size w6 wr)) (fun i _ => ds.length - (intOf i).toNat)
     case atStart => exact ⟨0, Nat.zero_le _, rfl, Below.refl _ _⟩
     case round =>
      obtain ⟨k, hk, rfl, HBE⟩ := hrel
      by_cases hkl : k < ds.length
      ·obtain ⟨lp, pn, po, pl, pc, p0, p1, np⟩ := (HY6.out.below HBE.out (Nat.le_refl _)).at k hkl
       obtain ⟨ub, _, e, lu, us, uo', ul, uc, u0, u1, nu⟩ := (HU6.out.below HBE.out (Nat.le_refl _)).at k hkl
       simp only [Value.slice.injEq, true_and] at e
       obtain ⟨rfl, rfl⟩ := e
       rw [Nat.zero_add] at p0 p1
       have NP := hide np; have NU := hide nu
       clear np nu
       generalize ds.getD k 0 = z at *
       go_wp2_with fail
       go_region_held3 (fun w' => w'.cell? ⟨P, k * 2, none⟩ = some (.bool pn) ∧ w'.cell? ⟨P, k * 2 + 1, none⟩ = some (.slice po pl pc) ∧ w'.cell? ⟨ub, k * 2, none⟩ = some (.int .i64 us) ∧ w'.cell? ⟨ub, k * 2 + 1, none⟩ = some (.slice uo' ul uc)) (go_keep)
        (first
         | (go_at_call 16; refine (intR_any _ _ z 2006 (by exact NU.out) (by omega)).mono ?_; rintro e w7 ⟨u7, rfl, hu7, hb7'⟩; have hb7 : Below wr.heap.size wr w7 := (Below.refl _ _).drew.trans (hb7'.mono (by simp)); have q0 := (hb7.cell (p := ⟨P, k * 2, none⟩) lp).trans p0; have q1 := (hb7.cell (p := ⟨P, k * 2 + 1, none⟩) lp).trans p1; have q2 := (hb7.cell (p := ⟨ub, k * 2, none⟩) lu).trans u0; have q3 := (hb7.cell (p := ⟨ub, k * 2 + 1, none⟩) lu).trans u1; have NU7 := hide hu7; have HB7 := hide hb7; clear hu7 hb7 hb7')
         | (go_at_call 15; refine (sameInt_true w7 _ _ z _ _ (by exact NP.out.below HB7.out (Nat.le_refl _)) (by exact NU7.out)).mono ?_; rintro e w8 ⟨rfl, hb8'⟩; have hb8 : Below wr.heap.size wr w8 := HB7.out.trans (hb8'.mono HB7.out.size); have o0 := (hb8.cell (p := ⟨P, k * 2, none⟩) lp).trans p0; have o1 := (hb8.cell (p := ⟨P, k * 2 + 1, none⟩) lp).trans p1; have o2 := (hb8.cell (p := ⟨ub, k * 2, none⟩) lu).trans u0; have o3 := (hb8.cell (p := ⟨ub, k * 2 + 1, none⟩) lu).trans u1; have HB8 := hide (HBE.out.trans (hb8.mono HBE.out.size)); clear hb8 hb8'))
       clear p0 p1 u0 u1 q0 q1 q2 q3 o0 o1 o2 o3
       go_wp2
       go_roundw
       case rel => exact ⟨k + 1, by omega, by go_num, HB8⟩
       case measure => simp [intOf]; omega
      ·obtain rfl : k = ds.length := by omega
       have HBZ := hide (HB6.out.trans (HBE.out.mono HB6.out.size))
       clear HBE
       go_wp2
       go_ret
       exact ⟨rfl, HBZ.out⟩
  ·rw [hfk]
   have HHB := hide (smith_bad w2 _ rss nI c (HML.out.below HB2.out (Nat.le_refl _)) hck)
   clear hfk hck hlv hlm
   go_wp2_with fail
   refine HHB.out.mono ?_
   rintro e w3 ⟨rfl, hb3⟩
   have HB3 := hide (HB2.out.trans (hb3.mono HB2.out.size))
   clear hb3 HHB
   go_wp2_with fail
   refine (same_of c hc0 w3).mono ?_
   rintro e w4' ⟨rfl, rfl⟩
   go_wp2
   go_ret
   exact ⟨rfl, HB3.out⟩

end Go.Proofs.YtdedolkgcdlmeaaGreatDoor
