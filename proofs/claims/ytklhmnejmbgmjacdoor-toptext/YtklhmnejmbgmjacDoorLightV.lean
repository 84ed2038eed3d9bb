/- Is a vector light? -/
import Derived.Test.YtklhmnejmbgmjacDoorOpenV
namespace Go.Proofs.YtklhmnejmbgmjacDoor
open Go.RowKit Limbs

def lightV (rs : List Raw) : Bool := decide (rs.length ≤ 10) && rs.all (fun r => decide (r.zs.length ≤ 8))

set_option maxRecDepth 100000 in
set_option maxHeartbeats 1600000 in
theorem lightV_any (w : World) (v : Value) (rs : List Raw) (hv : VecC w v rs) (b : Bool) (hb : b = lightV rs) :
    Calls Tryd.prog 10 #[v] w fun e w' => e = .returned (.bool b) ∧ w' = w := by
  have HB := hide hb
  have HV := hide hv
  obtain ⟨ao, cap, rfl, -, hmx, hc⟩ := hv
  clear hb
  by_cases h1 : 10 < rs.length
  · have hl : (10 : Int) < (rs.length : Int) := by omega
    have hbf : b = false := by rw [HB.out]; unfold lightV; rw [decide_eq_false (by omega)]; rfl
    subst hbf
    clear hc
    go_enter Tryd.func10, Tryd.ntmps10
    go_wp2
    go_ret
    exact ⟨rfl, rfl⟩
  · have hl : ¬ ((10 : Int) < (rs.length : Int)) := by omega
    have HE : Hid (b = rs.all (fun r => decide (r.zs.length ≤ 8))) := by
      show _ = _
      rw [HB.out]; unfold lightV; rw [decide_eq_true (by omega)]; rfl
    clear HB
    have HC := hide hc
    clear hc
    go_enter Tryd.func10, Tryd.ntmps10
    go_wp2
    go_loop [3] (fun i => ∃ k : Nat, k ≤ rs.length ∧ i = .int .i64 k ∧ Hid ((rs.take k).all (fun r => decide (r.zs.length ≤ 8)) = true)) (fun i => rs.length - (intOf i).toNat)
    case atStart => exact ⟨0, Nat.zero_le _, rfl, by show _ = _; simp⟩
    case round =>
      obtain ⟨k, hk, rfl, HG⟩ := hrel
      by_cases hkl : k < rs.length
      · obtain ⟨bk, off, rfl, hlt, hc⟩ := HC.out (by omega)
        obtain ⟨c0, c1, ⟨o, c, hs⟩, hz, -⟩ := hc k rs[k] (by simp [hkl])
        clear hc
        have HT : Hid ((rs.take (k + 1)).all (fun r => decide (r.zs.length ≤ 8)) = decide (rs[k].zs.length ≤ 8)) := by
          show _ = _
          rw [List.take_succ_eq_append_getElem hkl, List.all_append, HG.out]; simp
        have HF : Hid (¬ rs[k].zs.length ≤ 8 → rs.all (fun r => decide (r.zs.length ≤ 8)) = false) := fun h => by
          rw [List.all_eq_false]; exact ⟨rs[k], List.getElem_mem hkl, by simpa using h⟩
        generalize rs[k] = r at *
        obtain ⟨rn, rsl, rz⟩ := r
        simp only at hs hz c0 c1
        subst hs
        by_cases h8 : rz.length ≤ 8
        · have HG' := hide (HT.out.trans (decide_eq_true h8))
          have d8 : ¬ ((8 : Int) < (rz.length : Int)) := by omega
          clear HT HF HG
          go_wp2
          go_round
          case rel => exact ⟨k + 1, by omega, by go_num, HG'⟩
          case measure => simp [intOf]; omega
        · have hbf : b = false := HE.out.trans (HF.out h8)
          have d8 : (8 : Int) < (rz.length : Int) := by omega
          subst hbf
          clear HT HF HG HE
          go_wp2
          go_ret
          exact ⟨rfl, rfl⟩
      · obtain rfl : k = rs.length := by omega
        have hbt : b = true := by
          rw [HE.out]
          have := HG.out
          rwa [List.take_length] at this
        subst hbt
        clear HG HE
        go_wp2
        go_ret
        exact ⟨rfl, rfl⟩

end Go.Proofs.YtklhmnejmbgmjacDoor
