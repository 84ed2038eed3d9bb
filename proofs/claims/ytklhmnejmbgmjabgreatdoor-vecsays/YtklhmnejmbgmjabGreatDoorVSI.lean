/- VecSays: the whole way where nothing is too great. -/
import Derived.Test.YtklhmnejmbgmjabGreatDoorVSA
namespace Go.Proofs.YtklhmnejmbgmjabGreatDoor
open Go.RowKit Limbs Digs

theorem lightV_eight {rs : List Raw} (h : lightV rs = true) : ∀ r ∈ rs, r.zs.length ≤ 8 := by
  unfold lightV at h
  rw [Bool.and_eq_true] at h
  exact fun r hr => of_decide_eq_true (List.all_eq_true.1 h.2 r hr)

theorem MatC.light {w : World} {v : Value} {rss : List (List Raw)} (h : MatC w v rss) (hl : ∀ rs ∈ rss, lightV rs = true) : MatL w v rss := by
  obtain ⟨ao, cap, hv, h1, -, h2⟩ := h
  refine ⟨ao, cap, hv, h1, fun h0 => ?_⟩
  obtain ⟨b, off, e, hlt, hc⟩ := h2 h0
  refine ⟨b, off, e, hlt, fun i rs hi => ?_⟩
  obtain ⟨u, h3, h4⟩ := hc i rs hi
  exact ⟨u, h3, h4.light fun r hr => Nat.le_trans (lightV_eight (hl rs (List.mem_of_getElem? hi)) r hr) (by decide)⟩

theorem lightM_parts {rss : List (List Raw)} {n : Int} (h : lightM rss n = true) : rss.length ≤ 14 ∧ ∀ rs ∈ rss, lightV rs = true := by
  unfold lightM at h
  rw [Bool.and_eq_true, Bool.and_eq_true] at h
  exact ⟨of_decide_eq_true h.1.1, fun rs hr => List.all_eq_true.1 h.1.2 rs hr⟩

set_option linter.unusedSimpArgs false in
set_option maxRecDepth 100000 in
set_option maxHeartbeats 6400000 in
theorem vecSays_in (w : World) (va vb vm : Value) (s : ByteArray) (kn : Bool) (ko : Option Addr) (kc : Nat) (kz : List Int) (ras rbs : List Raw) (rss : List (List Raw)) (ht : Tab w) (hm : MaxLenSet w)
    (hA : VecC w va ras) (hB : VecC w vb rbs) (hM : MatC w vm rss) (hK : Lim w (.slice ko kz.length kc) kz) (hk8 : kz.length ≤ 8) (hs : s.size ≤ 300) (la : lightV ras = true) (lb : lightV rbs = true) (lm : lightM rss 60 = true) :
    Calls Tryz.prog 3 #[va, vb, .agg #[.bool kn, .slice ko kz.length kc], vm, .string s] w fun e w' => e = .returned (.bool true) ∧ Below w.heap.size w w' := by
  have HA := hide hA; have HB := hide hB; have HM := hide hM; have HK := hide hK; have HT := hide ht; have HMX := hide hm; have HLA := hide la; have HLB := hide lb; have HLM := hide lm
  have HVA := hide (hA.light fun r hr => Nat.le_trans (lightV_eight la r hr) (by decide))
  have HVB := hide (hB.light fun r hr => Nat.le_trans (lightV_eight lb r hr) (by decide))
  have HML := hide (hM.light (lightM_parts lm).2)
  have hr14 := (lightM_parts lm).1
  have HR10 : Hid (∀ rs ∈ rss, rs.length ≤ 10) := fun rs hr => (lightV_limbs ((lightM_parts lm).2 rs hr)).2
  have HR8 : Hid (∀ rs ∈ rss, ∀ r ∈ rs, r.zs.length ≤ 8) := fun rs hr => lightV_eight ((lightM_parts lm).2 rs hr)
  have hal := (lightV_limbs la).2
  have hbl := (lightV_limbs lb).2
  have hbA : Below w.heap.size w (w.alloc (.cells #[.bool kn, .slice ko kz.length kc] 26)) := (Below.refl _ _).alloc (Nat.le_refl _) _
  have HB0 := hide hbA
  have HX0 := hide (box_new w (.bool kn) (.slice ko kz.length kc) 26 w.heap.size rfl)
  have ls0 : w.heap.size < (w.alloc (.cells #[.bool kn, .slice ko kz.length kc] 26)).heap.size := by simp
  have hk9 : ¬ ((8 : Int) < (kz.length : Int)) := by omega
  have hk9' : decide ((8 : Int) < (kz.length : Int)) = false := decide_eq_false hk9
  have hs9 : ¬ ((300 : Int) < (s.size : Int)) := by omega
  have hs9' : decide ((300 : Int) < (s.size : Int)) = false := decide_eq_false hs9
  clear hA hB hM hK ht hm la lb lm hbA
  go_enter Tryz.func3, Tryz.ntmps3
  go_wp2_with fail
  generalize w.alloc (.cells #[.bool kn, .slice ko kz.length kc] 26) = W0 at *
  refine (vecs_any W0 (HT.out.below HB0.out)).mono ?_
  rintro e w1 ⟨rfl, hb1⟩
  have HB1 := hide (HB0.out.trans (hb1.mono HB0.out.size))
  have HX1 := hide (HX0.out.later hb1 ls0)
  have ls1 : w.heap.size < w1.heap.size := Nat.lt_of_lt_of_le ls0 hb1.size
  clear hb1 HB0 HX0 ls0
  go_wp2_with fail
  refine (lightV_any w1 va ras (HA.out.below HB1.out) true HLA.out.symm).mono ?_
  rintro e w2 ⟨rfl, rfl⟩
  go_wp2_with fail
  refine (lightV_any w2 vb rbs (HB.out.below HB1.out) true HLB.out.symm).mono ?_
  rintro e w3 ⟨rfl, rfl⟩
  go_wp2_with fail
  refine (lightM_any w3 vm rss 60 (HM.out.below HB1.out) true HLM.out.symm).mono ?_
  rintro e w4 ⟨rfl, rfl⟩
  obtain ⟨k0, k1, -, -⟩ := HX1.out
  clear HA HB HM HLM
  go_wp2_with fail
  refine (vecFault_any w4 va ras (HVA.out.below HB1.out (Nat.le_refl _)) (by omega)).mono ?_
  rintro e w5 ⟨rfl, hb5⟩
  have HB5 := hide (HB1.out.trans (hb5.mono HB1.out.size))
  have HX5 := hide (HX1.out.later hb5 ls1)
  have ls5 : w.heap.size < w5.heap.size := Nat.lt_of_lt_of_le ls1 hb5.size
  clear hb5 HB1 HX1 ls1 k0 k1
  go_upto_region 5 with fail
  go_cut [13] from 33 (fun v wc => v = .int .i64 (faultV rbs) ∧ Below w5.heap.size w5 wc)
  case first =>
    go_wp2_with fail
    refine (vecFault_any w5 vb rbs (HVB.out.below HB5.out (Nat.le_refl _)) (by omega)).mono ?_
    rintro e w6 ⟨rfl, hb6⟩
    have HB6 := hide hb6
    clear hb6
    go_wp2
    go_meet
    case rel => exact ⟨rfl, HB6.out⟩
  case rest =>
  obtain ⟨rfl, hb6⟩ := hcut
  apply_assumption
  exact vecSays_B w _ _ _ _ _ kn ko kc kz ras rbs rss (HB5.out.trans (hb6.mono HB5.out.size)) HT.out HVA.out HVB.out (lightV_eight HLA.out) (lightV_eight HLB.out) HML.out hr14 HR10.out HR8.out HK.out hk8 (HX5.out.later hb6 ls5) (Nat.lt_of_lt_of_le ls5 hb6.size) HMX.out hs _ _ _ _ _ _ _ _ _ _ _ _ _ _ _ _ _ _ _ _ _ _ _ _ _ _ _ _ _ _ _ _ _ _ _ _ _ _ _ _ _ _ _ _ _ _ _ _ _ _ _ _ _ _ _ _ _ _ _ _ _ _ _ _ _ _ _ _ _ _ _ _ _ _ _ _ _ _ _ _ _ _ _ _ _ _ _ _ _ _ _ _ _ _ _ _ _ _ _ _ _ _ _ _ _ _ _ _ _ _ _ _ _ _ _ _ _ _ _ _ _ _ _ _ _ _ _ _ _ _ _ _ _ _ _ _ _ _ _ _ _ _ _ _ _ _ _ _ _ _ _ _ _ _ _ _ _ _ _ _ _ _ _ _ _ _ _ _ _ _ _ _ _ _ _ _ _ _ _ _ _ _ _ _ _ _ _ _ _ _ _ _ _ _ _ _ _ _ _ _ _ _ _ _ _ _ _ _ _ _ _ _ _ _ _ _ _ _ _ _ _ _ _ _ _ _ _ _ _ _ _ _ _ _ _ _ _ _ _ _ _ _ _ _ _ _ _ _ _ _ _ _ _ _ _ _ _ _ _ _ _ _ _ _ _ _ _ _ _ _ _ _ _ _ _ _ _ _ _ _ _ _ _ _ _ _ _ _ _ _ _ _ _ _ _ _ _ _ _ _ _ _ _ _ _ _ _ _ _ _ _ _ _ _ _ _ _ _ _ _ _ _ _ _ _ _ _ _ _ _ _ _ _ _ _ _ _ _ _ _ _ _ _ _ _ _ _ _ _ _ _ _ _ _ _ _ _ _ _ _ _ _ _

set_option linter.unusedSimpArgs false in
set_option maxRecDepth 100000 in
set_option maxHeartbeats 6400000 in
theorem vecSays_not (w : World) (va vb vm : Value) (s : ByteArray) (kn : Bool) (ko : Option Addr) (kc : Nat) (kz : List Int) (ras rbs : List Raw) (rss : List (List Raw)) (ht : Tab w)
    (hA : VecC w va ras) (hB : VecC w vb rbs) (hM : MatC w vm rss) (hkl : kz.length ≤ 9223372036854775807) (hsl : s.size ≤ 9223372036854775807)
    (hno : ¬ (lightV ras = true ∧ lightV rbs = true ∧ lightM rss 60 = true ∧ kz.length ≤ 8 ∧ s.size ≤ 300)) :
    Calls Tryz.prog 3 #[va, vb, .agg #[.bool kn, .slice ko kz.length kc], vm, .string s] w fun e w' => e = .returned (.bool true) ∧ Below w.heap.size w w' := by
  have HA := hide hA; have HB := hide hB; have HM := hide hM; have HT := hide ht; have HNO := hide hno
  have hbA : Below w.heap.size w (w.alloc (.cells #[.bool kn, .slice ko kz.length kc] 26)) := (Below.refl _ _).alloc (Nat.le_refl _) _
  have HB0 := hide hbA
  have HX0 := hide (box_new w (.bool kn) (.slice ko kz.length kc) 26 w.heap.size rfl)
  have ls0 : w.heap.size < (w.alloc (.cells #[.bool kn, .slice ko kz.length kc] 26)).heap.size := by simp
  clear hA hB hM ht hbA hno
  go_enter Tryz.func3, Tryz.ntmps3
  go_wp2_with fail
  generalize w.alloc (.cells #[.bool kn, .slice ko kz.length kc] 26) = W0 at *
  refine (vecs_any W0 (HT.out.below HB0.out)).mono ?_
  rintro e w1 ⟨rfl, hb1⟩
  have HB1 := hide (HB0.out.trans (hb1.mono HB0.out.size))
  have HX1 := hide (HX0.out.later hb1 ls0)
  clear hb1 HB0 HX0 ls0
  obtain ⟨k0, k1, -, -⟩ := HX1.out
  go_wp2_with fail
  refine (lightV_any w1 va ras (HA.out.below HB1.out) (lightV ras) rfl).mono ?_
  rintro e w2 ⟨rfl, rfl⟩
  cases h1 : lightV ras
  · clear HNO HA HB HM
    go_wp2
    go_ret
    exact ⟨rfl, HB1.out⟩
  have H1 := hide h1
  clear h1
  go_wp2_with fail
  refine (lightV_any w2 vb rbs (HB.out.below HB1.out) (lightV rbs) rfl).mono ?_
  rintro e w3 ⟨rfl, rfl⟩
  cases h2 : lightV rbs
  · clear HNO HA HB HM H1
    go_wp2
    go_ret
    exact ⟨rfl, HB1.out⟩
  have H2 := hide h2
  clear h2
  go_wp2_with fail
  refine (lightM_any w3 vm rss 60 (HM.out.below HB1.out) (lightM rss 60) rfl).mono ?_
  rintro e w4 ⟨rfl, rfl⟩
  cases h3 : lightM rss 60
  · clear HNO HA HB HM H1 H2
    go_wp2
    go_ret
    exact ⟨rfl, HB1.out⟩
  have H3 := hide h3
  clear h3 HA HB HM
  by_cases h4 : (8 : Int) < (kz.length : Int)
  · have h4' : decide ((8 : Int) < (kz.length : Int)) = true := decide_eq_true h4
    clear HNO H1 H2 H3
    go_wp2
    go_ret
    exact ⟨rfl, HB1.out⟩
  have h4' : decide ((8 : Int) < (kz.length : Int)) = false := decide_eq_false h4
  have h5 : (300 : Int) < (s.size : Int) := by
    by_cases h : (300 : Int) < (s.size : Int)
    · exact h
    · exact absurd ⟨H1.out, H2.out, H3.out, by omega, by omega⟩ HNO.out
  have h5' : decide ((300 : Int) < (s.size : Int)) = true := decide_eq_true h5
  clear HNO H1 H2 H3
  go_wp2
  go_ret
  exact ⟨rfl, HB1.out⟩

end Go.Proofs.YtklhmnejmbgmjabGreatDoor
