/- Vectors made of numbers of 64 bits; the first place that isn't nought. -/
import Derived.Test.YtdedolkgcdlmeaaGreatDoorVecO
import Derived.Test.YtdedolkgcdlmeaaGreatDoorOps2
import Derived.Test.YtdedolkgcdlmeaaGreatDoorOf
import Derived.Test.YtdedolkgcdlmeaaGreatDoorGcdA
namespace Go.Proofs.YtdedolkgcdlmeaaGreatDoor
open Go.RowKit Limbs

/-- Numbers of 64 bits in a row. -/
def RowS (w : World) (v : Value) (ks : List Int) : Prop :=
  ∃ ao cap, v = .slice ao ks.length cap ∧ ks.length ≤ cap ∧ (∀ i, -9223372036854775808 ≤ ks.getD i 0 ∧ ks.getD i 0 ≤ 9223372036854775807) ∧
    (0 < ks.length → ∃ b off, ao = some ⟨b, off, none⟩ ∧ b < w.heap.size ∧ ∀ i, i < ks.length → w.cell? ⟨b, off + i, none⟩ = some (.int .i64 (ks.getD i 0)))

theorem RowS.below {C : Nat} {w w' : World} {v : Value} {ks : List Int} (h : RowS w v ks) (hb : Below C w w') (hC : w.heap.size ≤ C) : RowS w' v ks := by
  obtain ⟨ao, cap, hv, h1, hk, h2⟩ := h
  refine ⟨ao, cap, hv, h1, hk, fun h0 => ?_⟩
  obtain ⟨b, off, e, hlt, hc⟩ := h2 h0
  exact ⟨b, off, e, Nat.lt_of_lt_of_le hlt hb.size, fun i hi => (hb.cell (p := ⟨b, off + i, none⟩) (Nat.lt_of_lt_of_le hlt hC)).trans (hc i hi)⟩

/-- A vector that was made. -/
def VecPost (w : World) (zs : List Int) (n : Nat) (e : Ending) (w' : World) : Prop :=
  ∃ P, e = .returned (.slice (some ⟨P, 0, none⟩) zs.length zs.length) ∧ VecO w w' P zs n

theorem VecO.full {w W : World} {P : Nat} {zs : List Int} {n : Nat} (h : VecO w W P (zs.take zs.length ++ List.replicate (zs.length - zs.length) 0) n) : VecO w W P zs n := by
  rwa [List.take_length, Nat.sub_self, List.replicate_zero, List.append_nil] at h

set_option maxRecDepth 100000 in
set_option maxHeartbeats 1600000 in
theorem ofV_any (w : World) (v : Value) (ks : List Int) (hv : RowS w v ks) (h8 : ks.length ≤ 1000) :
    Calls Tryz.prog 49 #[v] w fun e w' => VecPost w ks 2 e w' := by
  have HV := hide hv
  obtain ⟨ao, cap, rfl, -, hk64, -⟩ := hv
  have HK := hide hk64
  have hmk := run_mkV ks.length (by omega)
  have HI := hide (VecO.made w w (Below.refl _ _) ks.length 2)
  clear hk64
  go_enter Tryz.func49, Tryz.ntmps49
  go_wp2
  clear hmk
  go_loopw [10] (fun i wr => ∃ k : Nat, k ≤ ks.length ∧ i = .int .i64 k ∧ VecO w wr w.heap.size (ks.take k ++ List.replicate (ks.length - k) 0) 2) (fun i _ => ks.length - (intOf i).toNat)
  case atStart => exact ⟨0, Nat.zero_le _, rfl, HI.out⟩
  case round =>
    clear HI
    obtain ⟨k, hk, rfl, hinv⟩ := hrel
    have HI := hide hinv
    clear hinv
    by_cases hkl : k < ks.length
    · obtain ⟨_, _, e, -, -, hc⟩ := HV.out.below HI.out.below (Nat.le_refl _)
      simp only [Value.slice.injEq, true_and] at e
      obtain ⟨rfl, rfl⟩ := e
      obtain ⟨b, off, rfl, -, hc⟩ := hc (by omega)
      have c0 := hc k hkl
      have HFS := hide (fill_step ks k hkl)
      have hfl := fill_len ks k hk
      have H64 := hide (HK.out k)
      clear hc
      generalize ks.getD k 0 = z at *
      go_wp2_with fail
      refine (of_any wr z H64.out.1 H64.out.2).mono ?_
      rintro e w2 ⟨r, rfl, hr, hb⟩
      obtain ⟨⟨rn, ro, rl, rc⟩, rfl⟩ := hr.nm
      have HI2 := hide (HI.out.later hb)
      obtain ⟨neg0, o0, l0, c0', k0, k1, -⟩ := HI2.out.at k (by omega)
      have f0 := HI2.out.thaw (k * 2)
      have f1 := HI2.out.thaw (k * 2 + 1)
      have hP := HI2.out.lt
      have HN := hide (HI2.out.set (k := k) (by omega) hr)
      rw [HFS.out] at HN
      clear hb hr HI HI2 HFS H64 c0
      go_wp2
      go_roundw
      case rel => exact ⟨k + 1, by omega, by go_num, HN.out⟩
      case measure => simp [intOf]; omega
    · obtain rfl : k = ks.length := by omega
      have HF := hide HI.out.full
      clear HI
      go_wp2
      go_ret
      exact ⟨_, rfl, HF.out⟩

/-- The first place that isn't nought, or -1. -/
def first : List Int → Int
  | [] => -1
  | z :: zs => if z = 0 then (if first zs < 0 then -1 else first zs + 1) else 0

def firstFrom (zs : List Int) (k : Nat) : Int := if first (zs.drop k) < 0 then -1 else first (zs.drop k) + k

theorem first_ge (zs : List Int) : -1 ≤ first zs := by
  induction zs with
  | nil => exact Int.le_refl _
  | cons z zs ih => unfold first; split <;> (try split) <;> omega

theorem firstFrom_hit (zs : List Int) (k : Nat) (hk : k < zs.length) (h : zs.getD k 0 ≠ 0) : firstFrom zs k = k := by
  unfold firstFrom
  have e : zs.drop k = zs.getD k 0 :: zs.drop (k + 1) := drop_cons_getD zs k hk
  rw [e, first, if_neg h]
  simp

theorem firstFrom_miss (zs : List Int) (k : Nat) (hk : k < zs.length) (h : zs.getD k 0 = 0) : firstFrom zs k = firstFrom zs (k + 1) := by
  unfold firstFrom
  have e : zs.drop k = zs.getD k 0 :: zs.drop (k + 1) := drop_cons_getD zs k hk
  have h1 := first_ge (zs.drop (k + 1))
  rw [e, first, if_pos h]
  by_cases h3 : first (zs.drop (k + 1)) < 0
  · rw [if_pos h3, if_pos h3, if_pos (by decide)]
  · rw [if_neg h3, if_neg h3, if_neg (by omega)]; omega

set_option maxRecDepth 100000 in
set_option maxHeartbeats 1600000 in
theorem firstV_any (w : World) (v : Value) (zs : List Int) (n : Nat) (hv : VecN w v zs n) (hl : zs.length ≤ 100000) :
    Calls Tryz.prog 107 #[v] w fun e w' => e = .returned (.int .i64 (first zs)) ∧ Below w.heap.size w w' := by
  have HV := hide hv
  obtain ⟨ao, cap, rfl, -, -⟩ := hv
  go_enter Tryz.func107, Tryz.ntmps107
  go_wp2
  go_loopw [6] (fun i wr => ∃ k : Nat, k ≤ zs.length ∧ i = .int .i64 k ∧ Hid (first zs = firstFrom zs k) ∧ Below w.heap.size w wr) (fun i _ => zs.length - (intOf i).toNat)
  case atStart => exact ⟨0, Nat.zero_le _, rfl, by
    show _ = _
    unfold firstFrom
    have := first_ge zs
    rw [List.drop_zero]
    split <;> omega, Below.refl _ _⟩
  case round =>
    obtain ⟨k, hk, rfl, HG, hbe⟩ := hrel
    have HBE := hide hbe
    clear hbe
    by_cases hkl : k < zs.length
    · obtain ⟨ab, aoff, _, e⟩ := HV.out.form (by omega)
      simp only [Value.slice.injEq, true_and] at e
      obtain ⟨rfl, rfl⟩ := e
      obtain ⟨la, an, ao, al, ac, a0, a1, na⟩ := (HV.out.below HBE.out (Nat.le_refl _)).at k hkl
      have NA := hide na
      clear na
      have HH := hide (firstFrom_hit zs k hkl)
      have HM := hide (firstFrom_miss zs k hkl)
      generalize zs.getD k 0 = z at *
      go_wp2_with fail
      refine (zero_any wr _ z n NA.out).mono ?_
      rintro e w1 ⟨rfl, hb1⟩
      have HB1 := hide (HBE.out.trans (hb1.mono HBE.out.size))
      clear hb1 HBE
      by_cases hz : z = 0
      · have HG' := hide (HG.out.trans (HM.out hz))
        have ez : decide (z = 0) = true := decide_eq_true hz
        rw [ez]
        clear HH HM HG NA a0 a1 ez
        go_wp2
        go_roundw
        case rel => exact ⟨k + 1, by omega, by go_num, HG', HB1.out⟩
        case measure => simp [intOf]; omega
      · have HE := hide (HG.out.trans (HH.out hz))
        have ez : decide (z = 0) = false := decide_eq_false hz
        rw [ez]
        clear HH HM HG NA a0 a1 ez
        go_wp2
        go_ret
        exact ⟨by rw [HE.out]; rfl, HB1.out⟩
    · obtain rfl : k = zs.length := by omega
      have HE : Hid (first zs = -1) := by
        show _ = _
        rw [HG.out]; unfold firstFrom
        rw [List.drop_length, if_pos (by show (-1 : Int) < 0; decide)]
      clear HG
      go_wp2
      go_ret
      exact ⟨by rw [HE.out]; rfl, HBE.out⟩

theorem zeroV_any (w : World) (v : Value) (zs : List Int) (n : Nat) (hv : VecN w v zs n) (hl : zs.length ≤ 100000) :
    Calls Tryz.prog 106 #[v] w fun e w' => e = .returned (.bool (decide (first zs < 0))) ∧ Below w.heap.size w w' := by
  have HV := hide hv
  clear hv
  go_enter Tryz.func106, Tryz.ntmps106
  go_wp2_with fail
  refine (firstV_any w v zs n HV.out hl).mono ?_
  rintro e w1 ⟨rfl, hb1⟩
  have HB := hide hb1
  clear hb1 HV
  go_wp2
  go_ret
  exact ⟨rfl, HB.out⟩

end Go.Proofs.YtdedolkgcdlmeaaGreatDoor
