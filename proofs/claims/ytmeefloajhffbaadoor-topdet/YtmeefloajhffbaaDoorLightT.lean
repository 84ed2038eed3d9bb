/- Are rows light? -/
import Derived.Test.YtmeefloajhffbaaDoorOpenM
import Derived.Test.YtmeefloajhffbaaDoorMatChk

namespace Go.Proofs.YtmeefloajhffbaaDoor
open Go.RowKit Limbs

set_option maxRecDepth 100000 in
set_option maxHeartbeats 4000000 in
theorem lightM_any (w : World) (v : Value) (rss : List (List Raw)) (limbs : Int) (hv : MatC w v rss) (b : Bool) (hb : b = lightM rss limbs) :
    Calls Tryd.prog 31 #[v, .int .i64 limbs] w fun e w' => e = .returned (.bool b) ∧ w' = w := by
  have HB := hide hb
  have HV := hide hv
  obtain ⟨ao, cap, rfl, -, hmx, hc⟩ := hv
  clear hb
  by_cases h14 : 14 < rss.length
  · have hl : (14 : Int) < (rss.length : Int) := by omega
    have hbf : b = false := by rw [HB.out]; unfold lightM; rw [decide_eq_false (by omega)]; rfl
    subst hbf
    clear hc
    go_enter Tryd.func31, Tryd.ntmps31
    go_wp2
    go_ret
    exact ⟨rfl, rfl⟩
  · have hl : ¬ ((14 : Int) < (rss.length : Int)) := by omega
    have HE : Hid (b = (rss.all lightV && decide ((limbsM rss : Int) ≤ limbs))) := by
      show _ = _
      rw [HB.out]; unfold lightM; rw [decide_eq_true (by omega), Bool.true_and]
    clear HB
    have HC := hide hc
    clear hc
    go_enter Tryd.func31, Tryd.ntmps31
    go_wp2
    go_loop [5, 6] (fun n i => ∃ k : Nat, k ≤ rss.length ∧ i = .int .i64 k ∧ n = .int .i64 (limbsM (rss.take k) : Nat) ∧ Hid ((rss.take k).all lightV = true)) (fun _ i => rss.length - (intOf i).toNat)
    case atStart => exact ⟨0, Nat.zero_le _, rfl, rfl, by show _ = _; simp⟩
    case round =>
      obtain ⟨k, hk, rfl, rfl, HG⟩ := hrel
      have hle := limbsM_le (rss.take k) HG.out
      have hlen : (rss.take k).length = k := by rw [List.length_take]; omega
      by_cases hkl : k < rss.length
      · obtain ⟨bk, off, rfl, hlt, hc⟩ := HC.out (by omega)
        obtain ⟨u, c0, hu⟩ := hc k rss[k] (by simp [hkl])
        clear hc
        have HU := hide hu
        have HT : Hid ((rss.take (k + 1)).all lightV = lightV rss[k]) := by
          show _ = _
          rw [List.take_succ_eq_append_getElem hkl, List.all_append, HG.out]; simp
        have HF : Hid (lightV rss[k] = false → rss.all lightV = false) := fun h => by
          rw [List.all_eq_false]; exact ⟨rss[k], List.getElem_mem hkl, by simp [h]⟩
        have HS := hide (limbsM_step rss k hkl)
        generalize limbsM (rss.take k) = N0 at *
        generalize rss[k] = rs at *
        go_wp2_with fail
        refine (lightV_any w u rs HU.out (lightV rs) rfl).mono ?_
        rintro e w1 ⟨rfl, rfl⟩
        cases hlv : lightV rs
        · have hbf : b = false := by rw [HE.out, HF.out hlv]; rfl
          subst hbf
          clear HT HF HS HE HG
          go_wp2
          go_ret
          exact ⟨rfl, rfl⟩
        · have HG' := hide (HT.out.trans hlv)
          obtain ⟨hlm, hl10⟩ := lightV_limbs hlv
          have H8 : Hid (rs.all (fun r => decide (r.zs.length ≤ 8)) = true) := by
            unfold lightV at hlv
            rw [Bool.and_eq_true] at hlv
            exact hlv.2
          clear HT HF HG hlv
          obtain ⟨vo, vcap, rfl, -, -, hc⟩ := hu
          have HC2 := hide hc
          clear hc
          go_wp2
          go_loop [5, 8] (fun n j => ∃ q : Nat, q ≤ rs.length ∧ j = .int .i64 q ∧ n = .int .i64 (N0 + limbsV (rs.take q) : Nat)) (fun _ j => rs.length - (intOf j).toNat)
          case atStart => exact ⟨0, Nat.zero_le _, rfl, rfl⟩
          case round =>
            obtain ⟨q, hq, rfl, rfl⟩ := hrel
            by_cases hql : q < rs.length
            · obtain ⟨vb, voff, rfl, hvlt, hc⟩ := HC2.out (by omega)
              obtain ⟨d0, d1, ⟨o, c, hs⟩, hz, -⟩ := hc q rs[q] (by simp [hql])
              clear hc
              have HSV := hide (limbsV_step rs q hql)
              have hz8 : rs[q].zs.length ≤ 8 := of_decide_eq_true (List.all_eq_true.1 H8.out _ (List.getElem_mem hql))
              have hb1 : limbsV (rs.take q) ≤ 80 := by
                have h2 := limbsV_le (rs.take q) (List.all_eq_true.2 fun r hr => List.all_eq_true.1 H8.out r (List.mem_of_mem_take hr))
                rw [List.length_take] at h2
                omega
              generalize limbsV (rs.take q) = M0 at *
              generalize rs[q] = r at *
              obtain ⟨rn, rsl, rz⟩ := r
              simp only at hs hz hz8 d0 d1
              subst hs
              go_wp2
              go_round
              case rel => exact ⟨q + 1, by omega, by go_num, by rw [HSV.out]; go_num⟩
              case measure => simp [intOf]; omega
            · obtain rfl : q = rs.length := by omega
              have HN1 : Hid (N0 + limbsV (rs.take rs.length) = limbsM (rss.take (k + 1))) := by
                show _ = _
                rw [List.take_length]; exact HS.out.symm
              have hle2 : limbsM (rss.take (k + 1)) ≤ 80 * 14 + 80 := by have := HS.out; omega
              rw [HN1.out]
              clear HN1 HS
              go_wp2
              go_round
              case rel => exact ⟨k + 1, by omega, by go_num, rfl, HG'⟩
              case measure => simp [intOf]; omega
      · obtain rfl : k = rss.length := by omega
        have HFN : Hid (b = decide ((limbsM rss : Int) ≤ limbs)) := by
          show _ = _
          have := HG.out
          rw [List.take_length] at this
          rw [HE.out, this, Bool.true_and]
        rw [List.take_length] at hle
        clear HG HE
        rw [List.take_length]
        generalize limbsM rss = N0 at *
        obtain rfl := HFN.out
        clear HFN
        go_wp2
        go_ret
        exact ⟨rfl, rfl⟩

end Go.Proofs.YtmeefloajhffbaaDoor

/- Light rows are such as may be read whole. -/
namespace Go.Proofs.YtmeefloajhffbaaDoor
open Go.RowKit Limbs

theorem lightV_eight {rs : List Raw} (h : lightV rs = true) : ∀ r ∈ rs, r.zs.length ≤ 8 := by
  unfold lightV at h
  rw [Bool.and_eq_true] at h
  exact fun r hr => of_decide_eq_true (List.all_eq_true.1 h.2 r hr)

theorem MatC.light {w : World} {v : Value} {rss : List (List Raw)} (h : MatC w v rss) (hl : ∀ rs ∈ rss, lightV rs = true) : MatL w v rss := by
  obtain ⟨ao, cap, hv, h1, -, h2⟩ := h
  refine ⟨ao, cap, hv, h1, fun h0 => ?_⟩
  obtain ⟨b, off, e, hlt, hc⟩ := h2 h0
  refine ⟨b, off, e, hlt, fun i rs hi => ?_⟩
  obtain ⟨u, h3, h4⟩ := hc i rs hi
  exact ⟨u, h3, h4.light fun r hr => Nat.le_trans (lightV_eight (hl rs (List.mem_of_getElem? hi)) r hr) (by decide)⟩

theorem lightM_parts {rss : List (List Raw)} {n : Int} (h : lightM rss n = true) : rss.length ≤ 14 ∧ ∀ rs ∈ rss, lightV rs = true := by
  unfold lightM at h
  rw [Bool.and_eq_true, Bool.and_eq_true] at h
  exact ⟨of_decide_eq_true h.1.1, fun rs hr => List.all_eq_true.1 h.1.2 rs hr⟩

end Go.Proofs.YtmeefloajhffbaaDoor

/- Light rows that are right. -/
namespace Go.Proofs.YtmeefloajhffbaaDoor
open Go.RowKit Limbs

def LightP (rss : List (List Raw)) (n : Int) : Prop := lightM rss 16 = true ∧ rss.length ≤ 6 ∧ checkedM rss n = .nilIface

theorem chkRows_cases (n : Int) : ∀ rss, chkRows n rss = .nilIface ∨ ∃ c : Int, chkRows n rss = .iface 68 (.int .i64 c)
  | [] => .inl rfl
  | rs :: t => by
    rw [chkRows]
    split
    · exact .inr ⟨_, rfl⟩
    · split
      · exact .inr ⟨_, rfl⟩
      · exact chkRows_cases n t

theorem checkedM_cases (rss : List (List Raw)) (n : Int) : checkedM rss n = .nilIface ∨ ∃ c : Int, checkedM rss n = .iface 68 (.int .i64 c) := by
  unfold checkedM
  split
  · exact .inr ⟨_, rfl⟩
  · split
    · exact .inr ⟨_, rfl⟩
    · exact chkRows_cases n rss

set_option maxRecDepth 100000 in
set_option maxHeartbeats 1600000 in
theorem lightT_any (w : World) (v : Value) (rss : List (List Raw)) (n : Int) (hv : MatC w v rss) (r : Bool) (hr : r = true ↔ LightP rss n) :
    Calls Tryd.prog 8 #[v, .int .i64 n] w fun e w' => e = .returned (.bool r) ∧ Below w.heap.size w w' := by
  have HV := hide hv; have HR := hide hr
  obtain ⟨ao, cap, rfl, -, hmx, -⟩ := hv
  have HLM := hide (lightM_any w _ rss 16 HV.out (lightM rss 16) rfl)
  clear hr
  cases hlm : lightM rss 16
  · obtain rfl : r = false := by
      cases r
      · rfl
      · exact absurd (HR.out.1 rfl).1 (by rw [hlm]; decide)
    rw [hlm] at HLM
    clear hlm
    go_enter Tryd.func8, Tryd.ntmps8
    go_wp2_with fail
    refine HLM.out.mono ?_
    rintro e w1 ⟨rfl, rfl⟩
    go_wp2
    go_ret
    exact ⟨rfl, Below.refl _ _⟩
  · rw [hlm] at HLM
    obtain ⟨h14, hlv⟩ := lightM_parts hlm
    have HML := hide (HV.out.light hlv)
    by_cases h6 : rss.length ≤ 6
    · have h6' : decide ((rss.length : Int) ≤ 6) = true := decide_eq_true (by omega)
      have HCK := hide (checkM_any w _ rss n HML.out)
      have HRR : Hid (r = true ↔ checkedM rss n = .nilIface) := hide (HR.out.trans ⟨fun h => h.2.2, fun h => ⟨hlm, h6, h⟩⟩)
      clear hlm hlv HML HR HV
      rcases checkedM_cases rss n with e | ⟨c, e⟩
      · obtain rfl : r = true := HRR.out.2 e
        rw [e] at HCK
        clear e HRR
        go_enter Tryd.func8, Tryd.ntmps8
        go_wp2_with fail
        refine HLM.out.mono ?_
        rintro e w1 ⟨rfl, rfl⟩
        go_wp2_with fail
        refine HCK.out.mono ?_
        rintro e w2 ⟨rfl, hb2⟩
        have HB2 := hide hb2
        clear hb2 HCK HLM
        go_wp2
        go_ret
        exact ⟨rfl, HB2.out⟩
      · obtain rfl : r = false := by
          cases r
          · rfl
          · have := HRR.out.1 rfl
            rw [e] at this; cases this
        rw [e] at HCK
        clear e HRR
        go_enter Tryd.func8, Tryd.ntmps8
        go_wp2_with fail
        refine HLM.out.mono ?_
        rintro e w1 ⟨rfl, rfl⟩
        go_wp2_with fail
        refine HCK.out.mono ?_
        rintro e w2 ⟨rfl, hb2⟩
        have HB2 := hide hb2
        clear hb2 HCK HLM
        go_wp2
        go_ret
        exact ⟨rfl, HB2.out⟩
    · obtain rfl : r = false := by
        cases r
        · rfl
        · exact absurd (HR.out.1 rfl).2.1 h6
      have h6' : decide ((rss.length : Int) ≤ 6) = false := decide_eq_false (by omega)
      clear hlm hlv HML
      go_enter Tryd.func8, Tryd.ntmps8
      go_wp2_with fail
      refine HLM.out.mono ?_
      rintro e w1 ⟨rfl, rfl⟩
      go_wp2
      go_ret
      exact ⟨rfl, Below.refl _ _⟩

end Go.Proofs.YtmeefloajhffbaaDoor
