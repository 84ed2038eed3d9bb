/- Long division: the arithmetic. -/
import Derived.Test.YtdedolkgcdlmeaaGreatDoorStepW
import Derived.Test.YtdedolkgcdlmeaaGreatDoorGroups
import Derived.Test.YtdedolkgcdlmeaaGreatDoorShelf
namespace Go.Proofs.YtdedolkgcdlmeaaGreatDoor
open Go.RowKit Limbs

theorem two_cast (L : Nat) : ((2 ^ L : Nat) : Int) = (2 : Int) ^ L := by norm_cast

set_option maxRecDepth 10000 in
theorem lz_any (x : Int) (h0 : 1 ≤ x) (h1 : x < 4294967296) : ∃ (s : Nat) (P Q : Int), Pow s P Q ∧ x * P < 4294967296 ∧ ∀ w, Calls Tryz.prog 141 #[.int .u32 x] w fun e w' => e = .returned (.int .i64 (s : Int)) ∧ w' = w := by
  obtain ⟨k, rfl⟩ := Int.eq_ofNat_of_zero_le (show 0 ≤ x by omega)
  obtain ⟨b1, -, b3⟩ := Lib.bitLenAux_bounds 64 k (by omega) (by omega)
  have b4 : Lib.bitLen k ≤ 32 := Lib.bitLen_le k 32 (by omega) (by omega)
  change 1 ≤ Lib.bitLen k at b1
  change k < 2 ^ Lib.bitLen k at b3
  have hc := fun w => Go.Proofs.Tryz.bits_LeadingZeros32 (k : Int) w (by omega) (by omega)
  rw [Int.toNat_natCast] at hc
  generalize Lib.bitLen k = L at *
  obtain ⟨P, Q, hP⟩ := pow_any (32 - L) (by omega)
  refine ⟨32 - L, P, Q, hP, ?_, fun w => ?_⟩
  · have e : ((2 ^ L : Nat) : Int) * P = 4294967296 := by
      have e0 := two_cast L
      rw [← hP.eq, e0, ← Int.pow_add, show L + (32 - L) = 32 by omega]; decide
    rw [← e]
    have hk : (k : Int) < ((2 ^ L : Nat) : Int) := Int.ofNat_lt.2 b3
    exact Int.mul_lt_mul_of_pos_right hk (by have := hP.pos; omega)
  · have := hc w
    rwa [show (32 : Int) - (L : Int) = ((32 - L : Nat) : Int) by omega] at this

theorem seg_le {zs : List Int} (h : LB zs) (off k : Nat) (hk : off + k ≤ zs.length) : seg zs off k ≤ lv (zs.drop off) := by
  have e := lv_split (zs.drop off) k (by rw [List.length_drop]; omega)
  have n0 := lv_nonneg (LB_drop (LB_drop h off) k)
  have : 0 ≤ bp k * lv ((zs.drop off).drop k) := Int.mul_nonneg (by have := bp_pos k; omega) n0
  unfold seg
  omega

theorem long_pre {zs : List Int} {at_ n : Nat} {D : Int} (hz : LB zs) (hn : at_ + n + 1 ≤ zs.length) (hlow : lv (zs.drop (at_ + 1)) < D) : seg zs at_ (n + 1) < D * 4294967296 := by
  have h1 := seg_le hz at_ (n + 1) (by omega)
  rw [drop_cons_getD zs at_ (by omega)] at h1
  simp only [lv] at h1
  have h2 := hz at_
  omega

theorem high_zero {zs : List Int} {k n : Nat} {D : Int} (hz : LB zs) (hn : k + n ≤ zs.length) (hlow : lv (zs.drop k) < D) (hD : D ≤ bp n) : lv (zs.drop (k + n)) = 0 := by
  have e := lv_split (zs.drop k) n (by rw [List.length_drop]; omega)
  rw [List.drop_drop] at e
  have n0 := lv_nonneg (LB_drop hz (k + n))
  have t0 := lv_take_nonneg (LB_drop hz k) n
  rcases Int.lt_or_le (lv (zs.drop (k + n))) 1 with h | h
  · omega
  · have := bp_pos n
    have : bp n * 1 ≤ bp n * lv (zs.drop (k + n)) := Int.mul_le_mul_of_nonneg_left h (by omega)
    omega

theorem long_step {zs ys qs : List Int} {k n : Nat} {D q VAL : Int} (hz : LB zs) (hn : k + n + 1 ≤ zs.length) (hq : k < qs.length)
    (hval : VAL = D * (bp (k + 1) * lv (qs.drop (k + 1))) + lv zs) (hlow : lv (zs.drop (k + 1)) < D) (hD : D ≤ bp n)
    (ho : Only zs ys k (n + 1)) (hst : seg zs k (n + 1) = q * D + seg ys k (n + 1)) (hlt : seg ys k (n + 1) < D) :
    VAL = D * (bp k * lv ((qs.set k q).drop k)) + lv ys ∧ lv (ys.drop k) < D := by
  have hZ := high_zero hz (by omega) hlow hD
  have e1 := lv_split zs k (by omega)
  have e2 := lv_split ys k (by rw [ho.len]; omega)
  have f1 := lv_split (zs.drop k) (n + 1) (by rw [List.length_drop]; omega)
  have f2 := lv_split (ys.drop k) (n + 1) (by rw [List.length_drop, ho.len]; omega)
  rw [List.drop_drop] at f1 f2
  rw [ho.high] at f2
  rw [show k + (n + 1) = k + 1 + n by omega, hZ, Int.mul_zero, Int.add_zero] at f1 f2
  rw [ho.low] at e2
  change lv (zs.drop k) = seg zs k (n + 1) at f1
  change lv (ys.drop k) = seg ys k (n + 1) at f2
  refine ⟨?_, by omega⟩
  rw [drop_cons_getD (qs.set k q) k (by rw [List.length_set]; exact hq), drop_set_lt _ _ _ _ (show k < k + 1 by omega), getD_set _ _ _ _ hq, if_pos rfl]
  simp only [lv]
  rw [f1, hst] at e1
  rw [f2] at e2
  rw [hval, e1, e2, Int.mul_add (bp k), Int.mul_add (bp k), Int.mul_add D]
  have g1 : D * (bp (k + 1) * lv (qs.drop (k + 1))) = D * (bp k * (4294967296 * lv (qs.drop (k + 1)))) := by simp only [bp]; ac_rfl
  have g2 : D * (bp k * q) = bp k * (q * D) := by ac_rfl
  rw [g1, g2]
  omega

theorem long_start {zs a b : List Int} {M : Nat} {P : Int} (hz : LB zs) (ha : LB a) (hb : LB b) (nb : Nrm b) (h0 : 0 < b.length) (hM : M + b.length = a.length + 1) (hl : zs.length = a.length + 1) (hv : lv zs = lv a * P) (hP : 1 ≤ P) : lv (zs.drop M) < lv b * P := by
  have e := lv_split zs M (by omega)
  have t0 := lv_take_nonneg hz M
  have h1 := lv_lt ha
  have h2 := nrm_low hb nb h0
  have hp := bp_pos M
  have h3 : bp (b.length - 1) * bp M = bp a.length := by rw [← bp_add]; congr 1; omega
  have h4 : bp (b.length - 1) * bp M ≤ lv b * bp M := Int.mul_le_mul_of_nonneg_right h2 (by omega)
  have h5 : lv a * P < lv b * bp M * P := Int.mul_lt_mul_of_pos_right (by omega) (by omega)
  have h6 : bp M * lv (zs.drop M) < bp M * (lv b * P) := by
    have : bp M * (lv b * P) = lv b * bp M * P := by ac_rfl
    omega
  exact Int.lt_of_mul_lt_mul_left h6 (by omega)

theorem long_end {A V q Z P : Int} (hP : 1 ≤ P) (h : A * P = V * P * q + Z) (h0 : 0 ≤ Z) (h1 : Z < V * P) : A = V * q + Z / P ∧ 0 ≤ Z / P ∧ Z / P < V := by
  have e : Z = (A - V * q) * P := by
    have : V * P * q = V * q * P := by ac_rfl
    rw [Int.sub_mul]; omega
  have d : Z / P = A - V * q := by rw [e]; exact Int.mul_ediv_cancel _ (by omega)
  refine ⟨by omega, Int.ediv_nonneg h0 (by omega), ?_⟩
  rw [Int.ediv_lt_iff_lt_mul (by omega : 0 < P)]
  exact h1

theorem div_len {d b : List Int} {P : Int} (hd : LB d) (nd : Nrm d) (hb : LB b) (nb : Nrm b) (h0 : 0 < b.length) (hP : 1 ≤ P) (hv : lv d = lv b * P) (hx : b.getD (b.length - 1) 0 * P < 4294967296) (hPP : ∃ Q, P * Q = 4294967296) :
    d.length = b.length ∧ lv d < bp b.length := by
  have h1 := nrm_low hb nb h0
  have e := lv_split b (b.length - 1) (by omega)
  rw [drop_cons_getD b (b.length - 1) (by omega), List.drop_eq_nil_of_le (by omega)] at e
  simp only [lv, Int.mul_zero, Int.add_zero] at e
  have t1 := lv_take_lt hb (b.length - 1)
  have hp := bp_pos (b.length - 1)
  obtain ⟨Q, hQ⟩ := hPP
  have hx2 : (b.getD (b.length - 1) 0 + 1) * P ≤ 4294967296 := by
    rw [← hQ, Int.mul_comm P Q] at hx ⊢
    have := Int.lt_of_mul_lt_mul_right hx (by omega)
    exact Int.mul_le_mul_of_nonneg_right (by omega) (by omega)
  have b1 : bp b.length = bp (b.length - 1) * 4294967296 := by
    conv => lhs; rw [← Nat.sub_add_cancel (show 1 ≤ b.length by omega)]
    simp only [bp]; rw [Int.mul_comm]
  have h2 : lv b * P < bp b.length := by
    have g1 : lv b * P < bp (b.length - 1) * (b.getD (b.length - 1) 0 + 1) * P := Int.mul_lt_mul_of_pos_right (by rw [Int.mul_add, Int.mul_one]; omega) (by omega)
    have g2 : bp (b.length - 1) * ((b.getD (b.length - 1) 0 + 1) * P) ≤ bp (b.length - 1) * 4294967296 := Int.mul_le_mul_of_nonneg_left hx2 (by omega)
    rw [← Int.mul_assoc] at g2
    omega
  have h3 : lv b * 1 ≤ lv b * P := Int.mul_le_mul_of_nonneg_left hP (by omega)
  refine ⟨?_, by omega⟩
  have l1 := length_le_of_lt hd nd (n := b.length) (by omega)
  rcases Nat.lt_or_ge d.length b.length with h | h
  · have l2 := lv_lt hd
    have l3 : bp d.length ≤ bp (b.length - 1) := bp_mono (by omega)
    omega
  · omega

end Go.Proofs.YtdedolkgcdlmeaaGreatDoor
