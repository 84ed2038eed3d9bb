/- One step of a division of limbs. -/
import Derived.Test.YtdedolkgcdlmeaaGreatDoorTake
namespace Go.Proofs.YtdedolkgcdlmeaaGreatDoor
open Go.RowKit Limbs

/-- The two numbers by their highest limbs: what is below is less than p. -/
structure Tops (A V p la lb a0 a1 a2 hi nx : Int) : Prop where
  ea : A = la + p * (a2 + 4294967296 * (a0 * 4294967296 + a1))
  ev : V = lb + p * (nx + 4294967296 * hi)
  p0 : 0 < p
  la0 : 0 ≤ la
  la1 : la < p
  lb0 : 0 ≤ lb
  lb1 : lb < p
  ra0 : 0 ≤ a0 ∧ a0 < 4294967296
  ra1 : 0 ≤ a1 ∧ a1 < 4294967296
  ra2 : 0 ≤ a2 ∧ a2 < 4294967296
  rhi : 1 ≤ hi ∧ hi < 4294967296
  rnx : 0 ≤ nx ∧ nx < 4294967296

theorem Tops.vpos {A V p la lb a0 a1 a2 hi nx : Int} (h : Tops A V p la lb a0 a1 a2 hi nx) : 4294967296 * p ≤ V := by
  obtain ⟨ea, ev, p0, la0, la1, lb0, lb1, ra0, ra1, ra2, rhi, rnx⟩ := h
  have : p * 4294967296 ≤ p * (nx + 4294967296 * hi) := Int.mul_le_mul_of_nonneg_left (by omega) (by omega)
  omega

theorem Tops.first {A V p la lb a0 a1 a2 hi nx : Int} (h : Tops A V p la lb a0 a1 a2 hi nx) (hlt : A < V * 4294967296) : a0 ≤ hi := by
  obtain ⟨ea, ev, p0, la0, la1, lb0, lb1, ra0, ra1, ra2, rhi, rnx⟩ := h
  have h1 : p * (a2 + 4294967296 * (a0 * 4294967296 + a1)) < p * ((nx + 4294967296 * hi + 1) * 4294967296) := by
    have e : p * ((nx + 4294967296 * hi + 1) * 4294967296) = (p * (nx + 4294967296 * hi) + p) * 4294967296 := by rw [← Int.mul_assoc, Int.mul_add p _ 1, Int.mul_one]
    rw [e]
    generalize p * (nx + 4294967296 * hi) = X at *
    generalize p * (a2 + 4294967296 * (a0 * 4294967296 + a1)) = Y at *
    omega
  have h2 := Int.lt_of_mul_lt_mul_left h1 (by omega)
  omega

/-- So many times it is too much. -/
theorem Tops.above {A V p la lb a0 a1 a2 hi nx : Int} (h : Tops A V p la lb a0 a1 a2 hi nx) {G : Int} (hG : 0 ≤ G) (hle : a2 + 4294967296 * (a0 * 4294967296 + a1) + 1 ≤ G * (nx + 4294967296 * hi)) : A < G * V := by
  obtain ⟨ea, ev, p0, la0, la1, lb0, lb1, ra0, ra1, ra2, rhi, rnx⟩ := h
  have h1 : p * (a2 + 4294967296 * (a0 * 4294967296 + a1) + 1) ≤ p * (G * (nx + 4294967296 * hi)) := Int.mul_le_mul_of_nonneg_left hle (by omega)
  have h2 : 0 ≤ G * lb := Int.mul_nonneg hG lb0
  have e : G * V = G * lb + p * (G * (nx + 4294967296 * hi)) := by rw [ev, Int.mul_add, Int.mul_left_comm]
  rw [Int.mul_add, Int.mul_one] at h1
  omega

theorem Tops.start {A V p la lb a0 a1 a2 hi nx : Int} (h : Tops A V p la lb a0 a1 a2 hi nx) : A < ((a0 * 4294967296 + a1) / hi + 1) * V := by
  have h' := h
  obtain ⟨ea, ev, p0, la0, la1, lb0, lb1, ra0, ra1, ra2, rhi, rnx⟩ := h'
  have q0 : 0 ≤ (a0 * 4294967296 + a1) / hi := Int.ediv_nonneg (by omega) (by omega)
  have d := Int.mul_ediv_add_emod (a0 * 4294967296 + a1) hi
  have m1 := Int.emod_lt_of_pos (a0 * 4294967296 + a1) (show 0 < hi by omega)
  refine h.above (by omega) ?_
  generalize (a0 * 4294967296 + a1) / hi = q at *
  have e : (q + 1) * (nx + 4294967296 * hi) = (q + 1) * nx + 4294967296 * (hi * q + hi) := by rw [Int.mul_add, Int.mul_left_comm (q + 1), Int.mul_comm (q + 1) hi, Int.mul_add hi, Int.mul_one]
  have n0 : 0 ≤ (q + 1) * nx := Int.mul_nonneg (by omega) rnx.1
  rw [e]
  generalize hi * q = z at *
  omega

theorem Tops.less {A V p la lb a0 a1 a2 hi nx : Int} (h : Tops A V p la lb a0 a1 a2 hi nx) {G R : Int} (hG : 0 ≤ G) (hR : G * hi + R = a0 * 4294967296 + a1) (hgt : R * 4294967296 + a2 < G * nx) : A < G * V := by
  refine h.above hG ?_
  have e : G * (nx + 4294967296 * hi) = G * nx + 4294967296 * (G * hi) := by rw [Int.mul_add, Int.mul_left_comm]
  rw [e, ← hR]
  omega

/-- Where the guess stands: it is at most one too much. -/
theorem Tops.stop {A V p la lb a0 a1 a2 hi nx : Int} (h : Tops A V p la lb a0 a1 a2 hi nx) {G R : Int} (hG : 0 ≤ G ∧ G < 4294967296) (hR : G * hi + R = a0 * 4294967296 + a1) (hle : G * nx ≤ R * 4294967296 + a2) : G * V < A + V := by
  have hv := h.vpos
  obtain ⟨ea, ev, p0, la0, la1, lb0, lb1, ra0, ra1, ra2, rhi, rnx⟩ := h
  have e : G * (nx + 4294967296 * hi) = G * nx + 4294967296 * (G * hi) := by rw [Int.mul_add, Int.mul_left_comm]
  have h1 : p * (G * (nx + 4294967296 * hi)) ≤ p * (a2 + 4294967296 * (a0 * 4294967296 + a1)) := Int.mul_le_mul_of_nonneg_left (by rw [e, ← hR]; omega) (by omega)
  have e2 : G * V = G * lb + p * (G * (nx + 4294967296 * hi)) := by rw [ev, Int.mul_add, Int.mul_left_comm]
  have h2 : G * lb ≤ 4294967295 * lb := Int.mul_le_mul_of_nonneg_right (by omega) lb0
  omega

theorem Tops.stop_far {A V p la lb a0 a1 a2 hi nx : Int} (h : Tops A V p la lb a0 a1 a2 hi nx) (hlt : A < V * 4294967296) {G R : Int} (hG : 0 ≤ G) (hR : G * hi + R = a0 * 4294967296 + a1) (hfar : 4294967296 ≤ R) : G < 4294967296 ∧ G * nx ≤ R * 4294967296 + a2 := by
  have hf := h.first hlt
  obtain ⟨ea, ev, p0, la0, la1, lb0, lb1, ra0, ra1, ra2, rhi, rnx⟩ := h
  have hg : G < 4294967296 := by
    rcases Int.lt_or_le G 4294967296 with h | h
    · exact h
    · have : 4294967296 * hi ≤ G * hi := Int.mul_le_mul_of_nonneg_right h (by omega)
      omega
  have h1 : G * nx ≤ 4294967295 * 4294967295 := Int.mul_le_mul (by omega) (by omega) rnx.1 (by decide)
  exact ⟨hg, by omega⟩

theorem tops_of {zs b : List Int} {off m : Nat} (hz : LB zs) (hb : LB b) (hm : b.length = m + 2) (ht : b.getD (m + 1) 0 ≠ 0) :
    Tops (seg zs off (b.length + 1)) (lv b) (bp m) (seg zs off m) (lv (b.take m)) (zs.getD (off + (m + 2)) 0) (zs.getD (off + (m + 1)) 0) (zs.getD (off + m) 0) (b.getD (m + 1) 0) (b.getD m 0) where
  ea := by
    rw [hm, seg_succ, seg_succ, seg_succ]
    simp only [bp, Int.mul_add]
    have e1 : 4294967296 * (4294967296 * bp m) * zs.getD (off + (m + 2)) 0 = bp m * (4294967296 * (zs.getD (off + (m + 2)) 0 * 4294967296)) := by ac_rfl
    have e2 : 4294967296 * bp m * zs.getD (off + (m + 1)) 0 = bp m * (4294967296 * zs.getD (off + (m + 1)) 0) := by ac_rfl
    rw [e1, e2]
    omega
  ev := by
    have e : lv b = lv (b.take (m + 2)) := by rw [lv_take_ge b (by omega)]
    rw [e, lv_take_succ, lv_take_succ]
    simp only [bp, Int.mul_add]
    have e2 : 4294967296 * bp m * b.getD (m + 1) 0 = bp m * (4294967296 * b.getD (m + 1) 0) := by ac_rfl
    rw [e2]
    omega
  p0 := bp_pos m
  la0 := seg_nonneg hz off m
  la1 := seg_lt hz off m
  lb0 := lv_take_nonneg hb m
  lb1 := lv_take_lt hb m
  ra0 := hz _
  ra1 := hz _
  ra2 := hz _
  rhi := by have := hb (m + 1); omega
  rnx := hb _

end Go.Proofs.YtdedolkgcdlmeaaGreatDoor
