/- Light rows are such as may be read whole. -/
import Derived.Test.YtmeefloajhffbaaDoorLightM
import Derived.Test.YtmeefloajhffbaaDoorShareL

namespace Go.Proofs.YtmeefloajhffbaaDoor
open Go.RowKit Limbs

theorem lightV_eight {rs : List Raw} (h : lightV rs = true) : ∀ r ∈ rs, r.zs.length ≤ 8 := by
  unfold lightV at h
  rw [Bool.and_eq_true] at h
  exact fun r hr => of_decide_eq_true (List.all_eq_true.1 h.2 r hr)

theorem MatC.light {w : World} {v : Value} {rss : List (List Raw)} (h : MatC w v rss) (hl : ∀ rs ∈ rss, lightV rs = true) : MatL w v rss := by
  obtain ⟨ao, cap, hv, h1, -, h2⟩ := h
  refine ⟨ao, cap, hv, h1, fun h0 => ?_⟩
  obtain ⟨b, off, e, hlt, hc⟩ := h2 h0
  refine ⟨b, off, e, hlt, fun i rs hi => ?_⟩
  obtain ⟨u, h3, h4⟩ := hc i rs hi
  exact ⟨u, h3, h4.light fun r hr => Nat.le_trans (lightV_eight (hl rs (List.mem_of_getElem? hi)) r hr) (by decide)⟩

theorem lightM_parts {rss : List (List Raw)} {n : Int} (h : lightM rss n = true) : rss.length ≤ 14 ∧ ∀ rs ∈ rss, lightV rs = true := by
  unfold lightM at h
  rw [Bool.and_eq_true, Bool.and_eq_true] at h
  exact ⟨of_decide_eq_true h.1.1, fun rs hr => List.all_eq_true.1 h.1.2 rs hr⟩

end Go.Proofs.YtmeefloajhffbaaDoor

/- Light rows that are right. -/
namespace Go.Proofs.YtmeefloajhffbaaDoor
open Go.RowKit Limbs

def LightP (rss : List (List Raw)) (n : Int) : Prop := lightM rss 16 = true ∧ rss.length ≤ 6 ∧ checkedM rss n = .nilIface

theorem chkRows_cases (n : Int) : ∀ rss, chkRows n rss = .nilIface ∨ ∃ c : Int, chkRows n rss = .iface 68 (.int .i64 c)
  | [] => .inl rfl
  | rs :: t => by
    rw [chkRows]
    split
    · exact .inr ⟨_, rfl⟩
    · split
      · exact .inr ⟨_, rfl⟩
      · exact chkRows_cases n t

theorem checkedM_cases (rss : List (List Raw)) (n : Int) : checkedM rss n = .nilIface ∨ ∃ c : Int, checkedM rss n = .iface 68 (.int .i64 c) := by
  unfold checkedM
  split
  · exact .inr ⟨_, rfl⟩
  · split
    · exact .inr ⟨_, rfl⟩
    · exact chkRows_cases n rss

set_option maxRecDepth 100000 in
set_option maxHeartbeats 1600000 in
theorem lightT_any (w : World) (v : Value) (rss : List (List Raw)) (n : Int) (hv : MatC w v rss) (r : Bool) (hr : r = true ↔ LightP rss n) :
    Calls Tryd.prog 8 #[v, .int .i64 n] w fun e w' => e = .returned (.bool r) ∧ Below w.heap.size w w' := by
  have HV := hide hv; have HR := hide hr
  obtain ⟨ao, cap, rfl, -, hmx, -⟩ := hv
  have HLM := hide (lightM_any w _ rss 16 HV.out (lightM rss 16) rfl)
  clear hr
  cases hlm : lightM rss 16
  · obtain rfl : r = false := by
      cases r
      · rfl
      · exact absurd (HR.out.1 rfl).1 (by rw [hlm]; decide)
    rw [hlm] at HLM
    clear hlm
    go_enter Tryd.func8, Tryd.ntmps8
    go_wp2_with fail
    refine HLM.out.mono ?_
    rintro e w1 ⟨rfl, rfl⟩
    go_wp2
    go_ret
    exact ⟨rfl, Below.refl _ _⟩
  · rw [hlm] at HLM
    obtain ⟨h14, hlv⟩ := lightM_parts hlm
    have HML := hide (HV.out.light hlv)
    by_cases h6 : rss.length ≤ 6
    · have h6' : decide ((rss.length : Int) ≤ 6) = true := decide_eq_true (by omega)
      have HCK := hide (checkM_any w _ rss n HML.out)
      have HRR : Hid (r = true ↔ checkedM rss n = .nilIface) := hide (HR.out.trans ⟨fun h => h.2.2, fun h => ⟨hlm, h6, h⟩⟩)
      clear hlm hlv HML HR HV
      rcases checkedM_cases rss n with e | ⟨c, e⟩
      · obtain rfl : r = true := HRR.out.2 e
        rw [e] at HCK
        clear e HRR
        go_enter Tryd.func8, Tryd.ntmps8
        go_wp2_with fail
        refine HLM.out.mono ?_
        rintro e w1 ⟨rfl, rfl⟩
        go_wp2_with fail
        refine HCK.out.mono ?_
        rintro e w2 ⟨rfl, hb2⟩
        have HB2 := hide hb2
        clear hb2 HCK HLM
        go_wp2
        go_ret
        exact ⟨rfl, HB2.out⟩
      · obtain rfl : r = false := by
          cases r
          · rfl
          · have := HRR.out.1 rfl
            rw [e] at this; cases this
        rw [e] at HCK
        clear e HRR
        go_enter Tryd.func8, Tryd.ntmps8
        go_wp2_with fail
        refine HLM.out.mono ?_
        rintro e w1 ⟨rfl, rfl⟩
        go_wp2_with fail
        refine HCK.out.mono ?_
        rintro e w2 ⟨rfl, hb2⟩
        have HB2 := hide hb2
        clear hb2 HCK HLM
        go_wp2
        go_ret
        exact ⟨rfl, HB2.out⟩
    · obtain rfl : r = false := by
        cases r
        · rfl
        · exact absurd (HR.out.1 rfl).2.1 h6
      have h6' : decide ((rss.length : Int) ≤ 6) = false := decide_eq_false (by omega)
      clear hlm hlv HML
      go_enter Tryd.func8, Tryd.ntmps8
      go_wp2_with fail
      refine HLM.out.mono ?_
      rintro e w1 ⟨rfl, rfl⟩
      go_wp2
      go_ret
      exact ⟨rfl, Below.refl _ _⟩

end Go.Proofs.YtmeefloajhffbaaDoor
