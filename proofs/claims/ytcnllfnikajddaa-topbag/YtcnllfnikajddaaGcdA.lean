/- Euclid's steps with what they are made of: the arithmetic; a number's sign; what lies in a variable. -/
import Derived.Test.YtcnllfnikajddaaHold
import Derived.Deep.RegionHeld3

namespace Go.Proofs.Ytcnllfnikajddaa
open Go.RowKit Limbs

def ab (z : Int) : Int := if z < 0 then -z else z
def sgn (z : Int) : Int := if z = 0 then 0 else if z < 0 then -1 else 1

theorem ab_nonneg (z : Int) : 0 ≤ ab z := by unfold ab; split <;> omega
theorem ab_sgn (z : Int) : ab z = sgn z * z := by
 unfold ab sgn
 repeat' split
 all_goals omega
theorem sgn_ab (z : Int) : z = sgn z * ab z := by
 unfold ab sgn
 repeat' split
 all_goals omega
theorem ab_sgn_le (z : Int) : ab (sgn z) ≤ 1 := by
 unfold sgn
 repeat' split
 all_goals decide

structure Bez (K a b g h x u y v : Int) : Prop where
 eg : g = x * a + y * b
 eh : h = u * a + v * b
 g0 : 0 ≤ g
 h0 : 0 ≤ h
 sx : x * u ≤ 0
 sy : y * v ≤ 0
 bx : ab x * h + ab u * g ≤ ab b
 by' : ab y * h + ab v * g ≤ ab a
 spa : ∃ p q, a = p * g + q * h
 spb : ∃ p q, b = p * g + q * h
 ka : ab a ≤ K
 kb : ab b ≤ K
 kx : ab x ≤ K
 ku : ab u ≤ K
 ky : ab y ≤ K
 kv : ab v ≤ K
 kg : g ≤ K
 kh : h ≤ K

theorem Bez.start {K a b : Int} (hK : 1 ≤ K) (ha : ab a ≤ K) (hb : ab b ≤ K) : Bez K a b (ab a) (ab b) (sgn a) 0 0 (sgn b) where
 eg := by rw [ab_sgn]; omega
 eh := by rw [ab_sgn]; omega
 g0 := ab_nonneg a
 h0 := ab_nonneg b
 sx := by omega
 sy := by omega
 bx := by
  have : ab (sgn a) * ab b ≤ 1 * ab b := Int.mul_le_mul_of_nonneg_right (ab_sgn_le a) (ab_nonneg b)
  have e : ab 0 * ab a = 0 := by simp [ab]
  omega
 by' := by
  have : ab (sgn b) * ab a ≤ 1 * ab a := Int.mul_le_mul_of_nonneg_right (ab_sgn_le b) (ab_nonneg a)
  have e : ab 0 * ab b = 0 := by simp [ab]
  omega
 spa := ⟨sgn a, 0, by have := sgn_ab a; omega⟩
 spb := ⟨0, sgn b, by have := sgn_ab b; omega⟩
 ka := ha
 kb := hb
 kx := by have := ab_sgn_le a; omega
 ku := by simp [ab]; omega
 ky := by simp [ab]; omega
 kv := by have := ab_sgn_le b; omega
 kg := ha
 kh := hb

theorem ab_sub {x u Q : Int} (hQ : 0 ≤ Q) (h : x * u ≤ 0) : ab (x - Q * u) = ab x + Q * ab u := by
 rcases (by omega : u = 0 ∨ 0 < u ∨ u < 0) with hu | hu | hu
 ·subst hu; simp [ab]
 ·have hx : x ≤ 0 := by
   rcases Int.lt_or_le 0 x with hx | hx
   ·have := Int.mul_pos hx hu; omega
   ·exact hx
  have hq : 0 ≤ Q * u := Int.mul_nonneg hQ (by omega)
  have e1 : ab u = u := by unfold ab; rw [if_neg (by omega)]
  rw [e1]
  unfold ab
  repeat' split
  all_goals omega
 ·have hx : 0 ≤ x := by
   rcases Int.lt_or_le x 0 with hx | hx
   ·have := Int.mul_pos_of_neg_of_neg hx hu; omega
   ·exact hx
  have hq : 0 ≤ Q * -u := Int.mul_nonneg hQ (by omega)
  have e1 : ab u = -u := by unfold ab; rw [if_pos hu]
  rw [e1]
  rw [Int.mul_neg] at hq ⊢
  unfold ab
  repeat' split
  all_goals omega

theorem sub_sign {x u Q : Int} (hQ : 0 ≤ Q) (h : x * u ≤ 0) : u * (x - Q * u) ≤ 0 := by
 have : 0 ≤ Q * (u * u) := Int.mul_nonneg hQ (by
  rcases Int.le_total 0 u with hu | hu
  ·exact Int.mul_nonneg hu hu
  ·exact Int.mul_nonneg_of_nonpos_of_nonpos hu hu)
 have e : u * (x - Q * u) = x * u - Q * (u * u) := by rw [Int.mul_sub, Int.mul_comm u x, Int.mul_left_comm u Q u]
 omega

theorem bez_bound {x u g h Q R B : Int} (hQ : 0 ≤ Q) (hs : x * u ≤ 0) (hg : g = Q * h + R) (hb : ab x * h + ab u * g ≤ B) : ab u * R + ab (x - Q * u) * h ≤ B := by
 rw [ab_sub hQ hs, Int.add_mul]
 have e : ab u * R = ab u * g - Q * ab u * h := by
  have : R = g - Q * h := by omega
  rw [this, Int.mul_sub]; congr 1; ac_rfl
 rw [e]
 omega

theorem Bez.step {K a b g h x u y v Q R : Int} (H : Bez K a b g h x u y v) (hg : g = Q * h + R) (hR0 : 0 ≤ R) (hR : R < h) : Bez K a b h R u (x - Q * u) v (y - Q * v) := by
 have hpos : 0 < h := by have := H.h0; omega
 have hQ : 0 ≤ Q := by
  rcases Int.lt_or_le Q 0 with hq | hq
  ·have h1 : Q * h ≤ -1 * h := Int.mul_le_mul_of_nonneg_right (by omega) (by omega)
   have := H.g0
   omega
  ·exact hq
 have b1 := bez_bound hQ H.sx hg H.bx
 have b2 := bez_bound hQ H.sy hg H.by'
 have le_mul : ∀ t : Int, 0 ≤ t → t ≤ t * h := fun t ht => by
  have : t * 1 ≤ t * h := Int.mul_le_mul_of_nonneg_left (by omega) ht
  omega
 refine ⟨H.eh, ?_, H.h0, hR0, sub_sign hQ H.sx, sub_sign hQ H.sy, b1, b2, ?_, ?_, H.ka, H.kb, H.ku, ?_, H.kv, ?_, H.kh, by have := H.kh; omega⟩
 ·have e1 := H.eg
  have e2 := H.eh
  have e3 : R = g - Q * h := by omega
  rw [e3, Int.sub_mul, Int.sub_mul]
  have e4 : Q * h = Q * u * a + Q * v * b := by rw [e2, Int.mul_add, Int.mul_assoc, Int.mul_assoc]
  omega
 ·obtain ⟨p, q, e⟩ := H.spa
  refine ⟨p * Q + q, p, ?_⟩
  rw [e, hg, Int.mul_add, Int.add_mul, Int.mul_assoc]
  omega
 ·obtain ⟨p, q, e⟩ := H.spb
  refine ⟨p * Q + q, p, ?_⟩
  rw [e, hg, Int.mul_add, Int.add_mul, Int.mul_assoc]
  omega
 ·have h1 := le_mul _ (ab_nonneg (x - Q * u))
  have h2 : 0 ≤ ab u * R := Int.mul_nonneg (ab_nonneg u) hR0
  have := H.kb
  omega
 ·have h1 := le_mul _ (ab_nonneg (y - Q * v))
  have h2 : 0 ≤ ab v * R := Int.mul_nonneg (ab_nonneg v) hR0
  have := H.ka
  omega

theorem NumL.tight {w : World} {v : Value} {z : Int} {n m : Nat} (h : NumL w v z n) (hz : ab z < bp m) : NumL w v z m := by
 obtain ⟨neg, s, zs, e, hl, hn, h0, hzz, -⟩ := h
 refine ⟨neg, s, zs, e, hl, hn, h0, hzz, ?_⟩
 have hlb : LB zs := by obtain ⟨_, _, _, _, _, h, _⟩ := hl; exact h
 have hp := lv_nonneg hlb
 refine length_le_of_lt hlb hn ?_
 rw [hzz] at hz
 unfold ab at hz
 split at hz <;> split at hz <;> omega

theorem NumL.ab_lt {w : World} {v : Value} {z : Int} {n : Nat} (h : NumL w v z n) : ab z < bp n := by
 obtain ⟨neg, s, zs, e, hl, hn, h0, hzz, hle⟩ := h
 have hlb : LB zs := by obtain ⟨_, _, _, _, _, h, _⟩ := hl; exact h
 have hp := lv_nonneg hlb
 have h1 := lv_lt hlb
 have h2 : bp zs.length ≤ bp n := bp_mono hle
 rw [hzz]
 unfold ab
 repeat' split
 all_goals omega

theorem Lim.unique {w : World} {v : Value} {xs ys : List Int} (hx : Lim w v xs) (hy : Lim w v ys) : xs = ys := by
 obtain ⟨ao, cap, rfl, -, -, -, hc⟩ := hx
 obtain ⟨bo, cap', e, -, -, -, hd⟩ := hy
 simp only [Value.slice.injEq] at e
 obtain ⟨rfl, hl, rfl⟩ := e
 refine List.ext_getElem hl fun i h1 h2 => ?_
 obtain ⟨b, off, e1, -, hc⟩ := hc (by omega)
 obtain ⟨b', off', e2, -, hd⟩ := hd (by omega)
 rw [e1] at e2
 simp only [Option.some.injEq, Addr.mk.injEq, and_true] at e2
 obtain ⟨rfl, rfl⟩ := e2
 have h3 := (hc i h1).symm.trans (hd i h2)
 simpa [List.getD_eq_getElem?_getD, h1, h2] using h3

theorem NumL.unique {w : World} {v : Value} {z z' : Int} {n n' : Nat} (h : NumL w v z n) (h' : NumL w v z' n') : z = z' := by
 obtain ⟨neg, s, zs, rfl, hl, -, -, hz, -⟩ := h
 obtain ⟨neg', s', zs', e, hl', -, -, hz', -⟩ := h'
 simp only [Value.agg.injEq, Array.mk.injEq, List.cons.injEq, Value.bool.injEq, and_true] at e
 obtain ⟨rfl, rfl⟩ := e
 rw [hz, hz', hl.unique hl']

noncomputable def numAt (W : World) (B : Nat) : Int := Classical.epsilon fun z => ∃ v0 v1 n, Box W B v0 v1 ∧ NumL W (.agg #[v0, v1]) z n

theorem numAt_eq {W : World} {B : Nat} {v0 v1 : Value} {z : Int} {n : Nat} (hb : Box W B v0 v1) (hn : NumL W (.agg #[v0, v1]) z n) : numAt W B = z := by
 obtain ⟨u0, u1, m, hb', hn'⟩ := Classical.epsilon_spec (p := fun z => ∃ v0 v1 n, Box W B v0 v1 ∧ NumL W (.agg #[v0, v1]) z n) ⟨z, v0, v1, n, hb, hn⟩
 have e0 : u0 = v0 := Option.some.inj (hb'.1.symm.trans hb.1)
 have e1 : u1 = v1 := Option.some.inj (hb'.2.1.symm.trans hb.2.1)
 rw [e0, e1] at hn'
 exact hn'.unique hn

set_option maxRecDepth 100000 in
set_option maxHeartbeats 800000 in
theorem sign_any (w : World) (va : Value) (x : Int) (n : Nat) (ha : NumL w va x n) :
  Calls Try.prog 64 #[va] w fun e w' => e = .returned (.int .i64 (sgn x)) ∧ Below w.heap.size w w' := by
 have HA := hide ha
 have hsg : ∀ neg s, va = .agg #[.bool neg, s] → (neg = true → x < 0) ∧ (neg = false → 0 ≤ x) := fun neg s e => by
  obtain ⟨neg', s', zs, e', hl, hn, h0, hz, -⟩ := ha
  rw [e] at e'
  simp only [Value.agg.injEq, Array.mk.injEq, List.cons.injEq, Value.bool.injEq, and_true] at e'
  obtain ⟨rfl, rfl⟩ := e'
  have hlb : LB zs := by obtain ⟨_, _, _, _, _, h, _⟩ := hl; exact h
  have hp := lv_nonneg hlb
  have hz0 := lv_zero_iff hlb hn
  constructor
  ·intro e; subst e
   have h1 : zs.length ≠ 0 := fun h => by simpa using h0 h
   have h2 : lv zs ≠ 0 := fun h => h1 (hz0.1 h)
   simp at hz; omega
  ·intro e; subst e; simp at hz; omega
 obtain ⟨an, sa, a, rfl, hla, -⟩ := ha
 obtain ⟨h1, h2⟩ := hsg an sa rfl
 clear hsg
 obtain ⟨ao, acap, rfl, -⟩ := hla
 by_cases hx : x = 0
 ·have hz := hide (decide_eq_true hx)
  have e : sgn x = 0 := by unfold sgn; rw [if_pos hx]
  rw [e]
  go_enter Try.func64, Try.ntmps64
  go_wp2_with fail
  have hB : Below w.heap.size w (w.alloc (.cells #[.bool an, .slice ao a.length acap] 75)) := (Below.refl _ _).alloc (Nat.le_refl _) _
  refine (zero_any _ _ x n (HA.out.below hB (Nat.le_refl _))).mono ?_
  rintro e w1 ⟨rfl, hb1⟩
  rw [hz.out]
  have HF := hide (hB.trans (hb1.mono hB.size))
  clear hb1 hB
  go_wp2
  go_ret
  exact ⟨rfl, HF.out⟩
 ·have hz := hide (decide_eq_false hx)
  cases an
  ·have e : sgn x = 1 := by unfold sgn; rw [if_neg hx, if_neg (by have := h2 rfl; omega)]
   rw [e]
   go_enter Try.func64, Try.ntmps64
   go_wp2_with fail
   have hB : Below w.heap.size w (w.alloc (.cells #[.bool false, .slice ao a.length acap] 75)) := (Below.refl _ _).alloc (Nat.le_refl _) _
   have hbx := box_new w (.bool false) (.slice ao a.length acap) 75 _ rfl
   refine (zero_any _ _ x n (HA.out.below hB (Nat.le_refl _))).mono ?_
   rintro e w1 ⟨rfl, hb1⟩
   rw [hz.out]
   obtain ⟨c0, c1, -, -⟩ := hbx.later hb1 (by simp)
   have HF := hide (hB.trans (hb1.mono hB.size))
   clear hb1 hB hbx
   go_wp2
   go_ret
   exact ⟨rfl, HF.out⟩
  ·have e : sgn x = -1 := by unfold sgn; rw [if_neg hx, if_pos (h1 rfl)]
   rw [e]
   go_enter Try.func64, Try.ntmps64
   go_wp2_with fail
   have hB : Below w.heap.size w (w.alloc (.cells #[.bool true, .slice ao a.length acap] 75)) := (Below.refl _ _).alloc (Nat.le_refl _) _
   have hbx := box_new w (.bool true) (.slice ao a.length acap) 75 _ rfl
   refine (zero_any _ _ x n (HA.out.below hB (Nat.le_refl _))).mono ?_
   rintro e w1 ⟨rfl, hb1⟩
   rw [hz.out]
   obtain ⟨c0, c1, -, -⟩ := hbx.later hb1 (by simp)
   have HF := hide (hB.trans (hb1.mono hB.size))
   clear hb1 hB hbx
   go_wp2
   go_ret
   exact ⟨rfl, HF.out⟩

end Go.Proofs.Ytcnllfnikajddaa

/- Moves of a region that draws its order, for operations whose guard says no. -/
namespace Go.Proofs.Ytcnllfnikajddaa
open Go

variable {P : Program} {ops : Array Oper} {Q : Exit → Act → World → Prop} {md : Region.Mode} {S : World → Prop}

theorem held_run (i d : Nat) {oi : Oper} {v : Value} {fuel : Nat} {listed : Array Bool} {a : Act} {w : World} (hi : ops[i]? = some oi) (hd : oi.dst = some d)
  (hs : Region.noSelect ops = true) (hf : Region.free md ops listed i = true) (hr : (Region.ready md ops listed).contains i = true)
  (hQ : ∀ c a w, Q (.panic c) (a.put (some d) v) w → Q (.panic c) a w) (hw : Region.wanted oi (yielded ops a.tmps) = true) (hy : ∀ w, S w → (execOp a.eval oi).run P w = .ok (.value v) w) (hS : S w)
  (h : wpAnyH P md ops Q S fuel (listed.setIfInBounds i true) (a.put (some d) v) w) : wpAnyH P md ops Q S (fuel + 1) listed a w :=
 wpAnyH_take hi hs hf hr (by rw [hd]; exact hQ) (.inl ⟨hw, hy⟩) hS (by rw [hd]; exact h)

theorem held_skip (i d : Nat) {oi : Oper} {fuel : Nat} {listed : Array Bool} {a : Act} {w : World} (hi : ops[i]? = some oi) (hd : oi.dst = some d)
  (hs : Region.noSelect ops = true) (hf : Region.free md ops listed i = true) (hr : (Region.ready md ops listed).contains i = true)
  (hQ : ∀ c a w, Q (.panic c) (a.put (some d) undef) w → Q (.panic c) a w) (hw : Region.wanted oi (yielded ops a.tmps) = false) (hS : S w)
  (h : wpAnyH P md ops Q S fuel (listed.setIfInBounds i true) (a.put (some d) undef) w) : wpAnyH P md ops Q S (fuel + 1) listed a w :=
 wpAnyH_take hi hs hf hr (by rw [hd]; exact hQ) (.inr ⟨hw, rfl⟩) hS (by rw [hd]; exact h)

end Go.Proofs.Ytcnllfnikajddaa

/- Moves of a region that draws its order and writes, at its end, cells that it read before: what is held is asked only of the operations ahead of the writes. -/
namespace Go.Proofs.Ytcnllfnikajddaa
open Go

section
variable {P : Program} {ops : Array Oper} {Q : Exit → Act → World → Prop} {md : Region.Mode} {S : World → Prop} {k : Nat}

def wpUpto (P : Program) (md : Region.Mode) (ops : Array Oper) (Q : Exit → Act → World → Prop) (S : World → Prop) (k : Nat) : Nat → Array Bool → Act → World → Prop
 | 0 => fun listed a w => Region.ready md ops listed = [] ∧ Q .normal a w
 | fuel + 1 => fun listed a w => (Region.ready md ops listed = [] → Q .normal a w) ∧
   ∀ j, j ∈ Region.ready md ops listed → wpOp P ops Q j (fun a' w' => (j < k → S w') ∧ wpUpto P md ops Q S k fuel (listed.setIfInBounds j true) a' w') a w

theorem any_of_upto (fuel : Nat) : ∀ (listed : Array Bool) (a : Act) (w : World), wpUpto P md ops Q S k fuel listed a w → wpAny P md ops Q fuel listed a w := by
 induction fuel with
 | zero => exact fun _ _ _ h => h
 | succ fuel ih => exact fun _ _ _ h => ⟨h.1, fun j hj => wpOp_mono (fun a' w' h' => ih _ a' w' h'.2) (h.2 j hj)⟩

def waits (md : Region.Mode) (ops : Array Oper) (k i : Nat) (ds : List Nat) : Bool :=
 ((List.range ops.size).all fun j => decide (j < k) || ds.contains j) &&
  ds.all fun j => match ops[j]? with
   | some o => o.after.any fun e => Region.binds md e && (e.on == i || ds.contains e.on)
   | none => true

theorem waits_spec {i : Nat} {ds : List Nat} (h : waits md ops k i ds = true) :
  (∀ j o, ops[j]? = some o → j ∉ ds → j < k) ∧ ∀ j, j ∈ ds → ∀ o, ops[j]? = some o → ∃ e ∈ o.after, Region.binds md e = true ∧ (e.on = i ∨ e.on ∈ ds) := by
 simp only [waits, Bool.and_eq_true, List.all_eq_true] at h
 refine ⟨fun j o hj hn => ?_, fun j hj o ho => ?_⟩
 ·have h1 := h.1 j (List.mem_range.2 (Array.getElem?_eq_some_iff.1 hj).1)
  simp only [Bool.or_eq_true, decide_eq_true_eq, List.contains_iff_mem] at h1
  exact h1.resolve_right hn
 ·have h2 := h.2 j hj
  rw [ho] at h2
  obtain ⟨e, he, hb⟩ := Array.any_eq_true'.1 h2
  simp only [Bool.and_eq_true, Bool.or_eq_true, beq_iff_eq, List.contains_iff_mem] at hb
  exact ⟨e, he, hb.1, hb.2⟩

theorem upto_first {i : Nat} {oi : Oper} {v : Value} (hi : ops[i]? = some oi) (hsel : ∀ (j : Nat) (o : Oper) cs b, ops[j]? = some o → o.op ≠ .select cs b)
  (hQ : ∀ c a w, Q (.panic c) (a.put oi.dst v) w → Q (.panic c) a w) (ds : List Nat) (hw : waits md ops k i ds = true) (fuel : Nat) :
  ∀ (listed : Array Bool) (a : Act) (w : World),
   (∀ j oj, ops[j]? = some oj → j ≠ i → listed.getD j true = false → (∀ e ∈ oj.after, Region.binds md e = true → e.on ≠ i) → oi.apart ops oj = true) →
   i ∈ Region.ready md ops listed → (∀ j ∈ ds, listed.getD j false = false) → YieldsIf P ops S oi v a → S w →
   wpUpto P md ops Q S k fuel (listed.setIfInBounds i true) (a.put oi.dst v) w → wpUpto P md ops Q S k (fuel + 1) listed a w := by
 obtain ⟨hlow, hds⟩ := waits_spec hw
 induction fuel with
 | zero =>
  intro listed a w _ hr _ hy hS H
  refine ⟨fun h0 => absurd hr (by rw [h0]; exact List.not_mem_nil), fun j hj => ?_⟩
  by_cases e : j = i
  ·subst e; exact hy.wpOp hi hS ⟨fun _ => hS, H⟩
  ·have := ready_mono hj e
   rw [H.1] at this
   cases this
 | succ fuel ih =>
  intro listed a w hfree hr hun hy hS H
  refine ⟨fun h0 => absurd hr (by rw [h0]; exact List.not_mem_nil), fun j hj => ?_⟩
  by_cases e : j = i
  ·subst e; exact hy.wpOp hi hS ⟨fun _ => hS, H⟩
  ·obtain ⟨hj0, oj, hoj, hall⟩ := mem_ready.1 hj
   have hi0 := (mem_ready.1 hr).1
   have hi1 : listed.getD i false = true → False := fun h => by
    by_cases hl : i < listed.size
    ·simp [hl] at hi0 h; rw [hi0] at h; cases h
    ·simp [Array.getElem?_eq_none (Nat.le_of_not_lt hl)] at h
   have hnd : j ∉ ds := fun hd => by
    obtain ⟨ed, hed, hbd, hon⟩ := hds j hd oj hoj
    have h1 := hall ed hed hbd
    rcases hon with hon | hon
    ·rw [hon] at h1; exact hi1 h1
    ·rw [hun _ hon] at h1; cases h1
   have hnot : ∀ ed ∈ oj.after, Region.binds md ed = true → ed.on ≠ i := fun ed hed hbd heq => hi1 (by have := hall ed hed hbd; rwa [heq] at this)
   have h2 := wpOp_putIf hoj (hfree j oj hoj e hj0 hnot) (fun cs b => hsel i oi cs b hi) (fun cs b => hsel j oj cs b hoj) hQ hy (H.2 j (ready_mono hj e))
   refine wpOp_mono (fun a' w' h3 => ?_) h2
   have hS' := h3.2.1 (hlow j oj hoj hnd)
   refine ⟨h3.2.1, ih (listed.setIfInBounds j true) a' w' (fun m om hm hmi hmu hmn => ?_) (ready_mono hr (Ne.symm e)) (fun d hd => ?_) h3.1 hS' ?_⟩
   ·refine hfree m om hm hmi ?_ hmn
    by_cases ejm : j = m
    ·subst ejm; exact hj0
    ·rwa [getD_set_ne true ejm] at hmu
   ·rw [getD_set_ne (i := j) (j := d) false (fun e' => hnd (by rw [e']; exact hd))]
    exact hun d hd
   ·rw [Array.setIfInBounds_comm _ _ e]
    exact h3.2.2

theorem upto_run (i d : Nat) (ds : List Nat) {oi : Oper} {v : Value} {fuel : Nat} {listed : Array Bool} {a : Act} {w : World} (hi : ops[i]? = some oi) (hd : oi.dst = some d)
  (hs : Region.noSelect ops = true) (hf : Region.free md ops listed i = true) (hr : (Region.ready md ops listed).contains i = true) (hw : waits md ops k i ds = true) (hu : (ds.all fun j => !listed.getD j false) = true)
  (hQ : ∀ c a w, Q (.panic c) (a.put (some d) v) w → Q (.panic c) a w) (hwt : Region.wanted oi (yielded ops a.tmps) = true) (hy : ∀ w, S w → (execOp a.eval oi).run P w = .ok (.value v) w) (hS : S w)
  (h : wpUpto P md ops Q S k fuel (listed.setIfInBounds i true) (a.put (some d) v) w) : wpUpto P md ops Q S k (fuel + 1) listed a w :=
 upto_first hi (Region.noSelect_spec hs) (by rw [hd]; exact hQ) ds hw fuel listed a w (Region.free_spec hi hf) (by simpa using hr)
  (fun j hj => by simpa using List.all_eq_true.1 hu j hj) (.inl ⟨hwt, hy⟩) hS (by rw [hd]; exact h)

theorem upto_one (i : Nat) {o : Oper} {fuel : Nat} {listed : Array Bool} {a : Act} {w : World} (hr : Region.ready md ops listed = [i]) (ho : ops[i]? = some o)
  (h : ∀ K' : Act → World → Prop, Shut (∀ a w, (i < k → S w) → wpUpto P md ops Q S k fuel (listed.setIfInBounds i true) a w → K' a w) → if Region.wanted o (yielded ops a.tmps) = true then Oper.wp P o a w K' Q else K' (a.put o.dst undef) w) :
  wpUpto P md ops Q S k (fuel + 1) listed a w := by
 refine ⟨fun h0 => absurd (hr.symm.trans h0) (by simp), fun j hj => ?_⟩
 rw [hr] at hj
 obtain rfl : j = i := by simpa using hj
 exact wpOp_step ho (fun K' hK => h K' (fun a w hS hW => hK a w ⟨hS, hW⟩))

theorem upto_done {fuel : Nat} {listed : Array Bool} {a : Act} {w : World} (hr : Region.ready md ops listed = []) (h : Q .normal a w) : wpUpto P md ops Q S k fuel listed a w := by
 cases fuel with
 | zero => exact ⟨hr, h⟩
 | succ fuel => exact ⟨fun _ => h, fun j hj => by rw [hr] at hj; cases hj⟩

theorem upto_start {id : Nat} {a : Act} {w : World} (hm : P.follows .mixedOrders = true) (hS : S w.drew)
  (h : S w.drew → wpUpto P .any ops Q S k ops.size (Array.replicate ops.size false) a w.drew) : (Code.region id ops true).wp P Q a w :=
 wp_region_any hm (any_of_upto _ _ _ _ (h hS))

theorem filter_less (l : List Nat) (p q : Nat → Bool) (hpq : ∀ x, q x = true → p x = true) {i : Nat} (hi : i ∈ l) (hp : p i = true) (hq : q i = false) : (l.filter q).length < (l.filter p).length := by
 induction l with
 | nil => cases hi
 | cons x xs ih =>
  have hle : (xs.filter q).length ≤ (xs.filter p).length := by
   clear ih hi
   induction xs with
   | nil => exact Nat.le_refl _
   | cons y ys ih =>
    simp only [List.filter_cons]
    cases hq' : q y
    ·cases p y <;> simp <;> omega
    ·simp [hpq y hq']; omega
  simp only [List.filter_cons]
  rcases List.mem_cons.1 hi with rfl | hi
  ·rw [hp, hq]; simp; omega
  ·have := ih hi
   cases hq' : q x
   ·cases p x <;> simp <;> omega
   ·simp [hpq x hq']; omega

def ordered (md : Region.Mode) (ops : Array Oper) : Bool :=
 (List.range ops.size).all fun j => match ops[j]? with
  | some o => o.after.all fun e => !Region.binds md e || decide (e.on < j)
  | none => true

theorem ordered_spec (h : ordered md ops = true) {j : Nat} {o : Oper} (hj : ops[j]? = some o) {e : Edge} (he : e ∈ o.after) (hb : Region.binds md e = true) : e.on < j := by
 have h1 := List.all_eq_true.1 h j (List.mem_range.2 (Array.getElem?_eq_some_iff.1 hj).1)
 simp only [hj] at h1
 have h2 := (Array.all_eq_true_iff_forall_mem.1 h1) e he
 simpa [hb] using h2

theorem all_listed (ho : ordered md ops = true) {listed : Array Bool} (hs : listed.size = ops.size) (h0 : Region.ready md ops listed = []) : ∀ i, i < ops.size → listed.getD i false = true := by
 intro i
 induction i using Nat.strongRecOn with
 | _ i ih =>
  intro hi
  cases hc : listed.getD i false with
  | true => rfl
  | false =>
   have hl : i < listed.size := by omega
   have hm : i ∈ Region.ready md ops listed := by
    refine mem_ready.2 ⟨?_, ops[i], by simp [hi], fun e he hb => ?_⟩
    ·simp [hl] at hc ⊢; exact hc
    ·have hlt := ordered_spec (j := i) ho (by simp [hi]) he hb
     exact ih _ hlt (by omega)
   rw [h0] at hm
   cases hm

theorem any_inv (ho : ordered md ops = true) (I : Array Bool → Act → World → Prop)
  (step : ∀ (L : Array Bool) (a : Act) (w : World) (i : Nat) (o : Oper), I L a w → ops[i]? = some o → L.getD i true = false → (∀ e ∈ o.after, Region.binds md e = true → L.getD e.on false = true) →
   ∀ K' : Act → World → Prop, Shut (∀ a' w', I (L.setIfInBounds i true) a' w' → K' a' w') → if Region.wanted o (yielded ops a.tmps) = true then Oper.wp P o a w K' Q else K' (a.put o.dst undef) w)
  (fin : ∀ (L : Array Bool) (a : Act) (w : World), I L a w → (∀ i, i < ops.size → L.getD i false = true) → Q .normal a w) (fuel : Nat) :
  ∀ (L : Array Bool) (a : Act) (w : World), L.size = ops.size → ((List.range ops.size).filter fun i => !L.getD i true).length ≤ fuel → I L a w → wpAny P md ops Q fuel L a w := by
 induction fuel with
 | zero =>
  intro L a w hs hf hI
  have h0 : Region.ready md ops L = [] := by
   cases hr : Region.ready md ops L with
   | nil => rfl
   | cons x xs =>
    have hx : x ∈ Region.ready md ops L := by rw [hr]; simp
    obtain ⟨h1, o, h2, -⟩ := mem_ready.1 hx
    have hm : x ∈ (List.range ops.size).filter fun i => !L.getD i true := List.mem_filter.2 ⟨List.mem_range.2 (Array.getElem?_eq_some_iff.1 h2).1, by simp only [h1]; rfl⟩
    have := List.length_pos_of_mem hm
    omega
  exact ⟨h0, fin L a w hI (all_listed ho hs h0)⟩
 | succ fuel ih =>
  intro L a w hs hf hI
  refine ⟨fun h0 => fin L a w hI (all_listed ho hs h0), fun i hi => ?_⟩
  obtain ⟨h1, o, h2, h3⟩ := mem_ready.1 hi
  refine wpOp_step h2 fun K' hK => step L a w i o hI h2 h1 h3 K' (fun a' w' hI' => hK a' w' (ih _ a' w' (by simpa using hs) ?_ hI'))
  have hil : i < L.size := by rw [hs]; exact (Array.getElem?_eq_some_iff.1 h2).1
  have hlt := filter_less (List.range ops.size) (fun j => !L.getD j true) (fun j => !(L.setIfInBounds i true).getD j true) (fun x hx => by
   by_cases e : i = x
   ·subst e; simp [hil] at hx
   ·rwa [getD_set_ne true e] at hx) (List.mem_range.2 (Array.getElem?_eq_some_iff.1 h2).1) (by simp only [h1]; rfl) (by simp [hil])
  omega

theorem region_inv {id : Nat} {a : Act} {w : World} (hm : P.follows .mixedOrders = true) (ho : ordered .any ops = true) (I : Array Bool → Act → World → Prop)
  (start : I (Array.replicate ops.size false) a w.drew)
  (step : ∀ (L : Array Bool) (a : Act) (w : World) (i : Nat) (o : Oper), I L a w → ops[i]? = some o → L.getD i true = false → (∀ e ∈ o.after, Region.binds .any e = true → L.getD e.on false = true) →
   ∀ K' : Act → World → Prop, Shut (∀ a' w', I (L.setIfInBounds i true) a' w' → K' a' w') → if Region.wanted o (yielded ops a.tmps) = true then Oper.wp P o a w K' Q else K' (a.put o.dst undef) w)
  (fin : ∀ (L : Array Bool) (a : Act) (w : World), I L a w → (∀ i, i < ops.size → L.getD i false = true) → Q .normal a w) : (Code.region id ops true).wp P Q a w :=
 wp_region_any hm (any_inv ho I step fin _ _ _ _ (by simp) (Nat.le_trans (List.length_filter_le _ _) (by simp)) start)

end
end Go.Proofs.Ytcnllfnikajddaa

/- The greatest that goes into both: what lies where while it is reckoned. -/
namespace Go.Proofs.Ytcnllfnikajddaa
open Go.RowKit Limbs

structure Nm where
 neg : Bool
 o : Option Addr
 l : Nat
 c : Nat

theorem NumL.nm {w : World} {v : Value} {z : Int} {n : Nat} (h : NumL w v z n) : ∃ r : Nm, v = .agg #[.bool r.neg, .slice r.o r.l r.c] := by
 obtain ⟨neg, s, zs, rfl, hl, -⟩ := h
 obtain ⟨ao, cap, rfl, -⟩ := hl
 exact ⟨⟨neg, ao, zs.length, cap⟩, rfl⟩

structure Var (W : World) (B : Nat) (r : Nm) (z : Int) : Prop where
 box : Box W B (.bool r.neg) (.slice r.o r.l r.c)
 num : NumL W (.agg #[.bool r.neg, .slice r.o r.l r.c]) z 12
 lt : B < W.heap.size

theorem Var.later {W W' : World} {B : Nat} {r : Nm} {z : Int} (h : Var W B r z) (hb : Below W.heap.size W W') : Var W' B r z := ⟨h.box.later hb h.lt, h.num.below hb (Nat.le_refl _), Nat.lt_of_lt_of_le h.lt hb.size⟩

theorem Var.drew {W : World} {B : Nat} {r : Nm} {z : Int} (h : Var W B r z) : Var W.drew B r z := ⟨h.box, h.num, h.lt⟩

theorem NumL.wrote {W : World} {B : Nat} {u0 u1 v0 v1 v : Value} {z : Int} {n : Nat} (h : NumL W v z n) (hb : Box W B u0 u1) (h0 : ∀ z, u0 ≠ .int .u32 z) (h1 : ∀ z, u1 ≠ .int .u32 z) : NumL ((W.setCell ⟨B, 0, none⟩ v0).setCell ⟨B, 1, none⟩ v1) v z n :=
 (h.setCell hb.1 h0).setCell (p := ⟨B, 1, none⟩) (u := u1) ((World.cell?_setCell_other (h := fun e => by simp at e) ..).trans hb.2.1) h1

theorem Var.other {W : World} {B C : Nat} {r s : Nm} {z y : Int} (h : Var W B r z) (hc : Var W C s y) (hne : B ≠ C) (v0 v1 : Value) : Var ((W.setCell ⟨C, 0, none⟩ v0).setCell ⟨C, 1, none⟩ v1) B r z :=
 ⟨(h.box.other hne _ _).other hne _ _, h.num.wrote hc.box (by simp) (by simp), by simpa using h.lt⟩

theorem Var.write {W : World} {C : Nat} {s r : Nm} {y z : Int} (hc : Var W C s y) (hn : NumL W (.agg #[.bool r.neg, .slice r.o r.l r.c]) z 12) : Var ((W.setCell ⟨C, 0, none⟩ (.bool r.neg)).setCell ⟨C, 1, none⟩ (.slice r.o r.l r.c)) C r z :=
 ⟨hc.box.write _ _, hn.wrote hc.box (by simp) (by simp), by simpa using hc.lt⟩

theorem NumL.drewed {W : World} {v : Value} {z : Int} {n : Nat} (h : NumL W v z n) : NumL W.drew v z n := h

theorem below_drewed {B : Nat} {w W : World} (h : Below B w W) : Below B w W.drew := h.drew

structure VarQ (W : World) (B : Nat) (r : Nm) (z : Int) : Prop where
 box : Box W B (.bool r.neg) (.slice r.o r.l r.c)
 num : NumL W (.agg #[.bool r.neg, .slice r.o r.l r.c]) z 13
 lt : B < W.heap.size

theorem VarQ.later {W W' : World} {B : Nat} {r : Nm} {z : Int} (h : VarQ W B r z) (hb : Below W.heap.size W W') : VarQ W' B r z := ⟨h.box.later hb h.lt, h.num.below hb (Nat.le_refl _), Nat.lt_of_lt_of_le h.lt hb.size⟩

theorem VarQ.drew {W : World} {B : Nat} {r : Nm} {z : Int} (h : VarQ W B r z) : VarQ W.drew B r z := ⟨h.box, h.num, h.lt⟩

theorem VarQ.other {W : World} {B C : Nat} {r s : Nm} {z y : Int} (h : VarQ W B r z) (hc : Var W C s y) (hne : B ≠ C) (v0 v1 : Value) : VarQ ((W.setCell ⟨C, 0, none⟩ v0).setCell ⟨C, 1, none⟩ v1) B r z :=
 ⟨(h.box.other hne _ _).other hne _ _, h.num.wrote hc.box (by simp) (by simp), by simpa using h.lt⟩

structure GSt (w W : World) (G X Y H U V : Nat) (rg rx ry rh ru rv : Nm) (g h x u y v : Int) : Prop where
 g : Var W G rg g
 x : Var W X rx x
 y : Var W Y ry y
 h : Var W H rh h
 u : Var W U ru u
 v : Var W V rv v
 below : Below w.heap.size w W

theorem GSt.later {w W W' : World} {G X Y H U V : Nat} {rg rx ry rh ru rv : Nm} {g h x u y v : Int} (s : GSt w W G X Y H U V rg rx ry rh ru rv g h x u y v) (hb : Below W.heap.size W W') : GSt w W' G X Y H U V rg rx ry rh ru rv g h x u y v :=
 ⟨s.g.later hb, s.x.later hb, s.y.later hb, s.h.later hb, s.u.later hb, s.v.later hb, s.below.trans (hb.mono s.below.size)⟩

theorem GSt.drew {w W : World} {G X Y H U V : Nat} {rg rx ry rh ru rv : Nm} {g h x u y v : Int} (s : GSt w W G X Y H U V rg rx ry rh ru rv g h x u y v) : GSt w W.drew G X Y H U V rg rx ry rh ru rv g h x u y v :=
 ⟨s.g.drew, s.x.drew, s.y.drew, s.h.drew, s.u.drew, s.v.drew, s.below.drew⟩

structure Blocks (w : World) (G X Y H U V : Nat) : Prop where
 g : w.heap.size ≤ G
 gx : G < X
 xy : X < Y
 yh : Y < H
 yu : Y < U
 yv : Y < V
 hu : H ≠ U
 hv : H ≠ V
 uv : U ≠ V

theorem GSt.gh {w W : World} {G X Y H U V : Nat} {rg rx ry rh ru rv r r' : Nm} {g h x u y v z z' : Int} (s : GSt w W G X Y H U V rg rx ry rh ru rv g h x u y v) (b : Blocks w G X Y H U V)
  (hn : NumL W (.agg #[.bool r.neg, .slice r.o r.l r.c]) z 12) (hn' : NumL W (.agg #[.bool r'.neg, .slice r'.o r'.l r'.c]) z' 12) :
  GSt w ((((W.setCell ⟨G, 0, none⟩ (.bool r.neg)).setCell ⟨G, 1, none⟩ (.slice r.o r.l r.c)).setCell ⟨H, 0, none⟩ (.bool r'.neg)).setCell ⟨H, 1, none⟩ (.slice r'.o r'.l r'.c)) G X Y H U V r rx ry r' ru rv z z' x u y v := by
 obtain ⟨b1, b2, b3, b4, b5, b6, b7, b8, b9⟩ := b
 have hh := s.h.other s.g (by omega) (.bool r.neg) (.slice r.o r.l r.c)
 have hg := s.g.write hn
 exact ⟨hg.other hh (by omega) _ _, (s.x.other s.g (by omega) _ _).other hh (by omega) _ _, (s.y.other s.g (by omega) _ _).other hh (by omega) _ _, hh.write (hn'.wrote s.g.box (by simp) (by simp)), (s.u.other s.g (by omega) _ _).other hh (by omega) _ _, (s.v.other s.g (by omega) _ _).other hh (by omega) _ _,
  (((s.below.setCell (by simp; omega) _).setCell (by simp; omega) _).setCell (by simp; omega) _).setCell (by simp; omega) _⟩

theorem GSt.xu {w W : World} {G X Y H U V : Nat} {rg rx ry rh ru rv r r' : Nm} {g h x u y v z z' : Int} (s : GSt w W G X Y H U V rg rx ry rh ru rv g h x u y v) (b : Blocks w G X Y H U V)
  (hn : NumL W (.agg #[.bool r.neg, .slice r.o r.l r.c]) z 12) (hn' : NumL W (.agg #[.bool r'.neg, .slice r'.o r'.l r'.c]) z' 12) :
  GSt w ((((W.setCell ⟨X, 0, none⟩ (.bool r.neg)).setCell ⟨X, 1, none⟩ (.slice r.o r.l r.c)).setCell ⟨U, 0, none⟩ (.bool r'.neg)).setCell ⟨U, 1, none⟩ (.slice r'.o r'.l r'.c)) G X Y H U V rg r ry rh r' rv g h z z' y v := by
 obtain ⟨b1, b2, b3, b4, b5, b6, b7, b8, b9⟩ := b
 have hu := s.u.other s.x (by omega) (.bool r.neg) (.slice r.o r.l r.c)
 have hx := s.x.write hn
 exact ⟨(s.g.other s.x (by omega) _ _).other hu (by omega) _ _, hx.other hu (by omega) _ _, (s.y.other s.x (by omega) _ _).other hu (by omega) _ _, (s.h.other s.x (by omega) _ _).other hu (by omega) _ _, hu.write (hn'.wrote s.x.box (by simp) (by simp)), (s.v.other s.x (by omega) _ _).other hu (by omega) _ _,
  (((s.below.setCell (by simp; omega) _).setCell (by simp; omega) _).setCell (by simp; omega) _).setCell (by simp; omega) _⟩

theorem GSt.yv {w W : World} {G X Y H U V : Nat} {rg rx ry rh ru rv r r' : Nm} {g h x u y v z z' : Int} (s : GSt w W G X Y H U V rg rx ry rh ru rv g h x u y v) (b : Blocks w G X Y H U V)
  (hn : NumL W (.agg #[.bool r.neg, .slice r.o r.l r.c]) z 12) (hn' : NumL W (.agg #[.bool r'.neg, .slice r'.o r'.l r'.c]) z' 12) :
  GSt w ((((W.setCell ⟨Y, 0, none⟩ (.bool r.neg)).setCell ⟨Y, 1, none⟩ (.slice r.o r.l r.c)).setCell ⟨V, 0, none⟩ (.bool r'.neg)).setCell ⟨V, 1, none⟩ (.slice r'.o r'.l r'.c)) G X Y H U V rg rx r rh ru r' g h x u z z' := by
 obtain ⟨b1, b2, b3, b4, b5, b6, b7, b8, b9⟩ := b
 have hv := s.v.other s.y (by omega) (.bool r.neg) (.slice r.o r.l r.c)
 have hy := s.y.write hn
 exact ⟨(s.g.other s.y (by omega) _ _).other hv (by omega) _ _, (s.x.other s.y (by omega) _ _).other hv (by omega) _ _, hy.other hv (by omega) _ _, (s.h.other s.y (by omega) _ _).other hv (by omega) _ _, (s.u.other s.y (by omega) _ _).other hv (by omega) _ _, hv.write (hn'.wrote s.y.box (by simp) (by simp)),
  (((s.below.setCell (by simp; omega) _).setCell (by simp; omega) _).setCell (by simp; omega) _).setCell (by simp; omega) _⟩

def GcdPost (w : World) (a b : Int) (e : Ending) (w' : World) : Prop :=
 ∃ vg vx vy g x y, e = .returned (.tuple #[vg, vx, vy]) ∧ NumL w' vg g 12 ∧ NumL w' vx x 12 ∧ NumL w' vy y 12 ∧ g = x * a + y * b ∧ 0 ≤ g ∧ (∃ p, a = p * g) ∧ (∃ p, b = p * g) ∧ Below w.heap.size w w'

end Go.Proofs.Ytcnllfnikajddaa
