/- Euclid's steps with what they are made of: the arithmetic; a number's sign; what lies in a variable. -/
import Derived.Test.YtdedolkgcdlmeaaGreatDoorDivW
import Derived.Test.YtdedolkgcdlmeaaGreatDoorHold
namespace Go.Proofs.YtdedolkgcdlmeaaGreatDoor
open Go.RowKit Limbs

def ab (z : Int) : Int := if z < 0 then -z else z
def sgn (z : Int) : Int := if z = 0 then 0 else if z < 0 then -1 else 1

theorem ab_nonneg (z : Int) : 0 ≤ ab z := by unfold ab; split <;> omega
theorem ab_sgn (z : Int) : ab z = sgn z * z := by
  unfold ab sgn
  repeat' split
  all_goals omega
theorem sgn_ab (z : Int) : z = sgn z * ab z := by
  unfold ab sgn
  repeat' split
  all_goals omega
theorem ab_sgn_le (z : Int) : ab (sgn z) ≤ 1 := by
  unfold sgn
  repeat' split
  all_goals decide

/-- all along, and how great they are -/
structure Bez (K a b g h x u y v : Int) : Prop where
  eg : g = x * a + y * b
  eh : h = u * a + v * b
  g0 : 0 ≤ g
  h0 : 0 ≤ h
  sx : x * u ≤ 0
  sy : y * v ≤ 0
  bx : ab x * h + ab u * g ≤ ab b
  by' : ab y * h + ab v * g ≤ ab a
  spa : ∃ p q, a = p * g + q * h
  spb : ∃ p q, b = p * g + q * h
  ka : ab a ≤ K
  kb : ab b ≤ K
  kx : ab x ≤ K
  ku : ab u ≤ K
  ky : ab y ≤ K
  kv : ab v ≤ K
  kg : g ≤ K
  kh : h ≤ K

theorem Bez.start {K a b : Int} (hK : 1 ≤ K) (ha : ab a ≤ K) (hb : ab b ≤ K) : Bez K a b (ab a) (ab b) (sgn a) 0 0 (sgn b) where
  eg := by rw [ab_sgn]; omega
  eh := by rw [ab_sgn]; omega
  g0 := ab_nonneg a
  h0 := ab_nonneg b
  sx := by omega
  sy := by omega
  bx := by
    have : ab (sgn a) * ab b ≤ 1 * ab b := Int.mul_le_mul_of_nonneg_right (ab_sgn_le a) (ab_nonneg b)
    have e : ab 0 * ab a = 0 := by simp [ab]
    omega
  by' := by
    have : ab (sgn b) * ab a ≤ 1 * ab a := Int.mul_le_mul_of_nonneg_right (ab_sgn_le b) (ab_nonneg a)
    have e : ab 0 * ab b = 0 := by simp [ab]
    omega
  spa := ⟨sgn a, 0, by have := sgn_ab a; omega⟩
  spb := ⟨0, sgn b, by have := sgn_ab b; omega⟩
  ka := ha
  kb := hb
  kx := by have := ab_sgn_le a; omega
  ku := by simp [ab]; omega
  ky := by simp [ab]; omega
  kv := by have := ab_sgn_le b; omega
  kg := ha
  kh := hb

theorem ab_sub {x u Q : Int} (hQ : 0 ≤ Q) (h : x * u ≤ 0) : ab (x - Q * u) = ab x + Q * ab u := by
  rcases (by omega : u = 0 ∨ 0 < u ∨ u < 0) with hu | hu | hu
  · subst hu; simp [ab]
  · have hx : x ≤ 0 := by
      rcases Int.lt_or_le 0 x with hx | hx
      · have := Int.mul_pos hx hu; omega
      · exact hx
    have hq : 0 ≤ Q * u := Int.mul_nonneg hQ (by omega)
    have e1 : ab u = u := by unfold ab; rw [if_neg (by omega)]
    rw [e1]
    unfold ab
    repeat' split
    all_goals omega
  · have hx : 0 ≤ x := by
      rcases Int.lt_or_le x 0 with hx | hx
      · have := Int.mul_pos_of_neg_of_neg hx hu; omega
      · exact hx
    have hq : 0 ≤ Q * -u := Int.mul_nonneg hQ (by omega)
    have e1 : ab u = -u := by unfold ab; rw [if_pos hu]
    rw [e1]
    rw [Int.mul_neg] at hq ⊢
    unfold ab
    repeat' split
    all_goals omega

theorem sub_sign {x u Q : Int} (hQ : 0 ≤ Q) (h : x * u ≤ 0) : u * (x - Q * u) ≤ 0 := by
  have : 0 ≤ Q * (u * u) := Int.mul_nonneg hQ (by
    rcases Int.le_total 0 u with hu | hu
    · exact Int.mul_nonneg hu hu
    · exact Int.mul_nonneg_of_nonpos_of_nonpos hu hu)
  have e : u * (x - Q * u) = x * u - Q * (u * u) := by rw [Int.mul_sub, Int.mul_comm u x, Int.mul_left_comm u Q u]
  omega

theorem bez_bound {x u g h Q R B : Int} (hQ : 0 ≤ Q) (hs : x * u ≤ 0) (hg : g = Q * h + R) (hb : ab x * h + ab u * g ≤ B) : ab u * R + ab (x - Q * u) * h ≤ B := by
  rw [ab_sub hQ hs, Int.add_mul]
  have e : ab u * R = ab u * g - Q * ab u * h := by
    have : R = g - Q * h := by omega
    rw [this, Int.mul_sub]; congr 1; ac_rfl
  rw [e]
  omega

theorem Bez.step {K a b g h x u y v Q R : Int} (H : Bez K a b g h x u y v) (hg : g = Q * h + R) (hR0 : 0 ≤ R) (hR : R < h) : Bez K a b h R u (x - Q * u) v (y - Q * v) := by
  have hpos : 0 < h := by have := H.h0; omega
  have hQ : 0 ≤ Q := by
    rcases Int.lt_or_le Q 0 with hq | hq
    · have h1 : Q * h ≤ -1 * h := Int.mul_le_mul_of_nonneg_right (by omega) (by omega)
      have := H.g0
      omega
    · exact hq
  have b1 := bez_bound hQ H.sx hg H.bx
  have b2 := bez_bound hQ H.sy hg H.by'
  have le_mul : ∀ t : Int, 0 ≤ t → t ≤ t * h := fun t ht => by
    have : t * 1 ≤ t * h := Int.mul_le_mul_of_nonneg_left (by omega) ht
    omega
  refine ⟨H.eh, ?_, H.h0, hR0, sub_sign hQ H.sx, sub_sign hQ H.sy, b1, b2, ?_, ?_, H.ka, H.kb, H.ku, ?_, H.kv, ?_, H.kh, by have := H.kh; omega⟩
  · have e1 := H.eg
    have e2 := H.eh
    have e3 : R = g - Q * h := by omega
    rw [e3, Int.sub_mul, Int.sub_mul]
    have e4 : Q * h = Q * u * a + Q * v * b := by rw [e2, Int.mul_add, Int.mul_assoc, Int.mul_assoc]
    omega
  · obtain ⟨p, q, e⟩ := H.spa
    refine ⟨p * Q + q, p, ?_⟩
    rw [e, hg, Int.mul_add, Int.add_mul, Int.mul_assoc]
    omega
  · obtain ⟨p, q, e⟩ := H.spb
    refine ⟨p * Q + q, p, ?_⟩
    rw [e, hg, Int.mul_add, Int.add_mul, Int.mul_assoc]
    omega
  · have h1 := le_mul _ (ab_nonneg (x - Q * u))
    have h2 : 0 ≤ ab u * R := Int.mul_nonneg (ab_nonneg u) hR0
    have := H.kb
    omega
  · have h1 := le_mul _ (ab_nonneg (y - Q * v))
    have h2 : 0 ≤ ab v * R := Int.mul_nonneg (ab_nonneg v) hR0
    have := H.ka
    omega

theorem NumL.tight {w : World} {v : Value} {z : Int} {n m : Nat} (h : NumL w v z n) (hz : ab z < bp m) : NumL w v z m := by
  obtain ⟨neg, s, zs, e, hl, hn, h0, hzz, -⟩ := h
  refine ⟨neg, s, zs, e, hl, hn, h0, hzz, ?_⟩
  have hlb : LB zs := by obtain ⟨_, _, _, _, _, h, _⟩ := hl; exact h
  have hp := lv_nonneg hlb
  refine length_le_of_lt hlb hn ?_
  rw [hzz] at hz
  unfold ab at hz
  split at hz <;> split at hz <;> omega

theorem NumL.ab_lt {w : World} {v : Value} {z : Int} {n : Nat} (h : NumL w v z n) : ab z < bp n := by
  obtain ⟨neg, s, zs, e, hl, hn, h0, hzz, hle⟩ := h
  have hlb : LB zs := by obtain ⟨_, _, _, _, _, h, _⟩ := hl; exact h
  have hp := lv_nonneg hlb
  have h1 := lv_lt hlb
  have h2 : bp zs.length ≤ bp n := bp_mono hle
  rw [hzz]
  unfold ab
  repeat' split
  all_goals omega

theorem Lim.unique {w : World} {v : Value} {xs ys : List Int} (hx : Lim w v xs) (hy : Lim w v ys) : xs = ys := by
  obtain ⟨ao, cap, rfl, -, -, -, hc⟩ := hx
  obtain ⟨bo, cap', e, -, -, -, hd⟩ := hy
  simp only [Value.slice.injEq] at e
  obtain ⟨rfl, hl, rfl⟩ := e
  refine List.ext_getElem hl fun i h1 h2 => ?_
  obtain ⟨b, off, e1, -, hc⟩ := hc (by omega)
  obtain ⟨b', off', e2, -, hd⟩ := hd (by omega)
  rw [e1] at e2
  simp only [Option.some.injEq, Addr.mk.injEq, and_true] at e2
  obtain ⟨rfl, rfl⟩ := e2
  have h3 := (hc i h1).symm.trans (hd i h2)
  simpa [List.getD_eq_getElem?_getD, h1, h2] using h3

theorem NumL.unique {w : World} {v : Value} {z z' : Int} {n n' : Nat} (h : NumL w v z n) (h' : NumL w v z' n') : z = z' := by
  obtain ⟨neg, s, zs, rfl, hl, -, -, hz, -⟩ := h
  obtain ⟨neg', s', zs', e, hl', -, -, hz', -⟩ := h'
  simp only [Value.agg.injEq, Array.mk.injEq, List.cons.injEq, Value.bool.injEq, and_true] at e
  obtain ⟨rfl, rfl⟩ := e
  rw [hz, hz', hl.unique hl']

/-- the number that lies in a variable -/
noncomputable def numAt (W : World) (B : Nat) : Int := Classical.epsilon fun z => ∃ v0 v1 n, Box W B v0 v1 ∧ NumL W (.agg #[v0, v1]) z n

theorem numAt_eq {W : World} {B : Nat} {v0 v1 : Value} {z : Int} {n : Nat} (hb : Box W B v0 v1) (hn : NumL W (.agg #[v0, v1]) z n) : numAt W B = z := by
  obtain ⟨u0, u1, m, hb', hn'⟩ := Classical.epsilon_spec (p := fun z => ∃ v0 v1 n, Box W B v0 v1 ∧ NumL W (.agg #[v0, v1]) z n) ⟨z, v0, v1, n, hb, hn⟩
  have e0 : u0 = v0 := Option.some.inj (hb'.1.symm.trans hb.1)
  have e1 : u1 = v1 := Option.some.inj (hb'.2.1.symm.trans hb.2.1)
  rw [e0, e1] at hn'
  exact hn'.unique hn

set_option maxRecDepth 100000 in
set_option maxHeartbeats 800000 in
theorem sign_any (w : World) (va : Value) (x : Int) (n : Nat) (ha : NumL w va x n) :
    Calls Tryz.prog 150 #[va] w fun e w' => e = .returned (.int .i64 (sgn x)) ∧ Below w.heap.size w w' := by
  have HA := hide ha
  have hsg : ∀ neg s, va = .agg #[.bool neg, s] → (neg = true → x < 0) ∧ (neg = false → 0 ≤ x) := fun neg s e => by
    obtain ⟨neg', s', zs, e', hl, hn, h0, hz, -⟩ := ha
    rw [e] at e'
    simp only [Value.agg.injEq, Array.mk.injEq, List.cons.injEq, Value.bool.injEq, and_true] at e'
    obtain ⟨rfl, rfl⟩ := e'
    have hlb : LB zs := by obtain ⟨_, _, _, _, _, h, _⟩ := hl; exact h
    have hp := lv_nonneg hlb
    have hz0 := lv_zero_iff hlb hn
    constructor
    · intro e; subst e
      have h1 : zs.length ≠ 0 := fun h => by simpa using h0 h
      have h2 : lv zs ≠ 0 := fun h => h1 (hz0.1 h)
      simp at hz; omega
    · intro e; subst e; simp at hz; omega
  obtain ⟨an, sa, a, rfl, hla, -⟩ := ha
  obtain ⟨h1, h2⟩ := hsg an sa rfl
  clear hsg
  obtain ⟨ao, acap, rfl, -⟩ := hla
  by_cases hx : x = 0
  · have hz := hide (decide_eq_true hx)
    have e : sgn x = 0 := by unfold sgn; rw [if_pos hx]
    rw [e]
    go_enter Tryz.func150, Tryz.ntmps150
    go_wp2_with fail
    have hB : Below w.heap.size w (w.alloc (.cells #[.bool an, .slice ao a.length acap] 29)) := (Below.refl _ _).alloc (Nat.le_refl _) _
    refine (zero_any _ _ x n (HA.out.below hB (Nat.le_refl _))).mono ?_
    rintro e w1 ⟨rfl, hb1⟩
    rw [hz.out]
    have HF := hide (hB.trans (hb1.mono hB.size))
    clear hb1 hB
    go_wp2
    go_ret
    exact ⟨rfl, HF.out⟩
  · have hz := hide (decide_eq_false hx)
    cases an
    · have e : sgn x = 1 := by unfold sgn; rw [if_neg hx, if_neg (by have := h2 rfl; omega)]
      rw [e]
      go_enter Tryz.func150, Tryz.ntmps150
      go_wp2_with fail
      have hB : Below w.heap.size w (w.alloc (.cells #[.bool false, .slice ao a.length acap] 29)) := (Below.refl _ _).alloc (Nat.le_refl _) _
      have hbx := box_new w (.bool false) (.slice ao a.length acap) 29 _ rfl
      refine (zero_any _ _ x n (HA.out.below hB (Nat.le_refl _))).mono ?_
      rintro e w1 ⟨rfl, hb1⟩
      rw [hz.out]
      obtain ⟨c0, c1, -, -⟩ := hbx.later hb1 (by simp)
      have HF := hide (hB.trans (hb1.mono hB.size))
      clear hb1 hB hbx
      go_wp2
      go_ret
      exact ⟨rfl, HF.out⟩
    · have e : sgn x = -1 := by unfold sgn; rw [if_neg hx, if_pos (h1 rfl)]
      rw [e]
      go_enter Tryz.func150, Tryz.ntmps150
      go_wp2_with fail
      have hB : Below w.heap.size w (w.alloc (.cells #[.bool true, .slice ao a.length acap] 29)) := (Below.refl _ _).alloc (Nat.le_refl _) _
      have hbx := box_new w (.bool true) (.slice ao a.length acap) 29 _ rfl
      refine (zero_any _ _ x n (HA.out.below hB (Nat.le_refl _))).mono ?_
      rintro e w1 ⟨rfl, hb1⟩
      rw [hz.out]
      obtain ⟨c0, c1, -, -⟩ := hbx.later hb1 (by simp)
      have HF := hide (hB.trans (hb1.mono hB.size))
      clear hb1 hB hbx
      go_wp2
      go_ret
      exact ⟨rfl, HF.out⟩

end Go.Proofs.YtdedolkgcdlmeaaGreatDoor
