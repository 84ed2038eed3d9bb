/- Numbers divided, walked. -/
import Derived.Test.YtmeefloajhffbaaDoorDiv
import Derived.Test.YtmeefloajhffbaaDoorDivOne

namespace Go.Proofs.YtmeefloajhffbaaDoor
open Go.RowKit Limbs

set_option maxRecDepth 100000 in
set_option maxHeartbeats 3200000 in
theorem div_any (w : World) (va vb : Value) (x y : Int) (n m : Nat) (ha : NumL w va x n) (hb : NumL w vb y m) (hy : y ≠ 0) (hn : n ≤ 800000) :
    Calls Tryd.prog 21 #[va, vb] w fun e w' => QuoPost w x y n m e w' := by
  have HB := hide hb
  obtain ⟨an, sa, a, rfl, hla, nra, -, hx, hna⟩ := ha
  obtain ⟨bn, sb, b, rfl, hlb, nrb, -, hyy, hnb⟩ := hb
  have HLA := hide hla
  have HLB := hide hlb
  obtain ⟨ao, acap, rfl, -, -, halb, -⟩ := hla
  obtain ⟨bo, bcap, rfl, -, -, hblb, -⟩ := hlb
  have hb0 : b.length ≠ 0 := fun h => hy (by rw [hyy, List.eq_nil_of_length_eq_zero h]; simp [lv])
  change x = sg an (lv a) at hx
  change y = sg bn (lv b) at hyy
  have HX := hide hx; have HY := hide hyy
  clear hx hyy
  go_enter Tryd.func21, Tryd.ntmps21
  go_wp2_with fail
  have hT := four w (.bool an) (.slice ao a.length acap) (.bool bn) (.slice bo b.length bcap) (.bool false) (.slice none 0 0) (.bool false) (.slice none 0 0) 26 26 26 26
  generalize (((w.alloc (.cells #[.bool an, .slice ao a.length acap] 26)).alloc (.cells #[.bool bn, .slice bo b.length bcap] 26)).alloc (.cells #[.bool false, .slice none 0 0] 26)).alloc (.cells #[.bool false, .slice none 0 0] 26) = W at *
  refine (zero_any W _ y m (HB.out.below hT.below (Nat.le_refl _))).mono ?_
  rintro e w1 ⟨rfl, hb1⟩
  rw [decide_eq_false hy]
  have hT1 := hT.later hb1
  obtain ⟨p0, p1, -, -⟩ := hT1.fst
  obtain ⟨q0, q1, -, -⟩ := hT1.snd
  go_wp2_with fail
  refine (divLimbs_any w1 _ _ a b (HLA.out.below hT1.below (Nat.le_refl _)) (HLB.out.below hT1.below (Nat.le_refl _)) nra nrb hb0 (by omega)).mono ?_
  rintro e w2 ⟨v1, v2, qs, rs, rfl, hl1, hl2, hnq, hnr, hval, hlt, hql, hrl, hb2⟩
  have HV := hide hval
  have HLT := hide hlt
  have HL1 := hide hl1
  have HL2 := hide hl2
  have hT2 := hT1.later hb2
  clear p0 p1 q0 q1 hval hlt hT hT1 hb1
  obtain ⟨ro, rcap, rfl, -, -, hrlb, -⟩ := hl2
  have hr0 := lv_nonneg hrlb
  have hrz := lv_zero_iff hrlb hnr
  clear hl1
  obtain ⟨p0, p1, -, -⟩ := hT2.fst
  obtain ⟨q0, q1, -, -⟩ := hT2.snd
  by_cases hpl : an = bn ∨ lv rs = 0
  · have hfact := quo_plain an bn HV.out hr0 HLT.out hpl
    rw [← HX.out, ← HY.out] at hfact
    rcases (show (an == bn) = true ∨ ((an == bn) = false ∧ rs.length = 0) by
      by_cases h : an = bn
      · exact .inl (by simp [h])
      · exact .inr ⟨by simpa using h, hrz.1 (hpl.resolve_left h)⟩) with hab | ⟨hab, hr0'⟩
    · clear hpl
      rw [hab] at hfact
      have HFA := hide hfact
      clear hfact
      obtain ⟨p0, p1, -, -⟩ := hT2.fst
      obtain ⟨q0, q1, -, -⟩ := hT2.snd
      have tok1 : True := trivial
      have tok2 : True := trivial
      have hn2 : ¬ (w.heap.size + 1 + 1 = w.heap.size) := by omega
      have hn3 : ¬ (w.heap.size = w.heap.size + 1 + 1) := by omega
      have hn4 : ¬ (w.heap.size + 3 = w.heap.size) := by omega
      have hn5 : ¬ (w.heap.size = w.heap.size + 3) := by omega
      have hn6 : ¬ (w.heap.size + 2 = w.heap.size) := by omega
      have hn7 : ¬ (w.heap.size = w.heap.size + 2) := by omega
      go_wp2_with fail
      go_region_held3 (fun w' => w'.cell? ⟨w.heap.size, 0, none⟩ = some (.bool an) ∧ w'.cell? ⟨w.heap.size + 1, 0, none⟩ = some (.bool bn)) (go_keep)
        (first
          | (go_at_call 33; have _t := tok1; refine (signed_any _ _ _ qs (n + 1) (by exact HL1.out) (by omega)).mono ?_; rintro e w8 ⟨r8, rfl, hr8, hb8⟩; have hT8 := hT2.drew.later hb8; obtain ⟨p0', p1', -, -⟩ := hT8.fst; obtain ⟨q0', q1', -, -⟩ := hT8.snd; have HR8 := hide hr8; obtain ⟨rn8, rs8, rz8, rfl, hl8, -⟩ := hr8; obtain ⟨ro8, rcap8, rfl, -⟩ := hl8; clear tok1)
          | (go_at_call 33; have _t := tok2; refine (signed_any _ _ _ rs m ((show Lim _ _ rs from by exact HL2.out).below (drewed hb8) (Nat.le_refl _)) (by omega)).mono ?_; rintro e w9 ⟨r9, rfl, hr9, hb9⟩; have hT9 := hT8.later hb9; obtain ⟨p0'', p1'', -, -⟩ := hT9.fst; obtain ⟨q0'', q1'', -, -⟩ := hT9.snd; obtain ⟨c0, c1, f0, f1⟩ := hT9.res; obtain ⟨d0, d1, g0, g1⟩ := hT9.sec; have HR9 := hide hr9; obtain ⟨rn9, rs9, rz9, rfl, hl9, -⟩ := hr9; obtain ⟨ro9, rcap9, rfl, -⟩ := hl9; have HR8' := hide (HR8.out.below hb9 (Nat.le_refl _)); clear tok2))
      have HF := hide (boxed2 (w := w) HR8'.out HR9.out c0 c1 d0 d1 (by omega) (by simp) (by simp) (by simp) (by simp) hT9.below (by omega) (by omega))
      have HA := hide (HFA.out)
      clear hT8 hT9 hb8 hb9 HR8 HR9 HR8' hT2
      go_wp2
      exact bodyPost_ret (v := .tuple #[.agg #[.bool rn8, .slice ro8 rz8.length rcap8], .agg #[.bool rn9, .slice ro9 rz9.length rcap9], .nilIface]) (by simp [results, Tryd.results21, go_sem, c0, c1, d0, d1]) rfl ⟨_, _, _, _, rfl, HF.out.1, HF.out.2.1, HA.out.1, HA.out.2, HF.out.2.2⟩
    · obtain rfl : rs = [] := List.eq_nil_of_length_eq_zero hr0'
      rw [hab] at hfact
      have HFA := hide hfact
      clear hfact hpl hr0' hrz
      obtain ⟨p0, p1, -, -⟩ := hT2.fst
      obtain ⟨q0, q1, -, -⟩ := hT2.snd
      have tok1 : True := trivial
      have tok2 : True := trivial
      have hn2 : ¬ (w.heap.size + 1 + 1 = w.heap.size) := by omega
      have hn3 : ¬ (w.heap.size = w.heap.size + 1 + 1) := by omega
      have hn4 : ¬ (w.heap.size + 3 = w.heap.size) := by omega
      have hn5 : ¬ (w.heap.size = w.heap.size + 3) := by omega
      have hn6 : ¬ (w.heap.size + 2 = w.heap.size) := by omega
      have hn7 : ¬ (w.heap.size = w.heap.size + 2) := by omega
      go_wp2_with fail
      go_region_held3 (fun w' => w'.cell? ⟨w.heap.size, 0, none⟩ = some (.bool an) ∧ w'.cell? ⟨w.heap.size + 1, 0, none⟩ = some (.bool bn)) (go_keep)
        (first
          | (go_at_call 33; have _t := tok1; refine (signed_any _ _ _ qs (n + 1) (by exact HL1.out) (by omega)).mono ?_; rintro e w8 ⟨r8, rfl, hr8, hb8⟩; have hT8 := hT2.drew.later hb8; obtain ⟨p0', p1', -, -⟩ := hT8.fst; obtain ⟨q0', q1', -, -⟩ := hT8.snd; have HR8 := hide hr8; obtain ⟨rn8, rs8, rz8, rfl, hl8, -⟩ := hr8; obtain ⟨ro8, rcap8, rfl, -⟩ := hl8; clear tok1)
          | (go_at_call 33; have _t := tok2; refine (signed_any _ _ _ [] m ((show Lim _ _ [] from by exact HL2.out).below (drewed hb8) (Nat.le_refl _)) (by simp)).mono ?_; rintro e w9 ⟨r9, rfl, hr9, hb9⟩; have hT9 := hT8.later hb9; obtain ⟨p0'', p1'', -, -⟩ := hT9.fst; obtain ⟨q0'', q1'', -, -⟩ := hT9.snd; obtain ⟨c0, c1, f0, f1⟩ := hT9.res; obtain ⟨d0, d1, g0, g1⟩ := hT9.sec; have HR9 := hide hr9; obtain ⟨rn9, rs9, rz9, rfl, hl9, -⟩ := hr9; obtain ⟨ro9, rcap9, rfl, -⟩ := hl9; have HR8' := hide (HR8.out.below hb9 (Nat.le_refl _)); clear tok2))
      have HF := hide (boxed2 (w := w) HR8'.out HR9.out c0 c1 d0 d1 (by omega) (by simp) (by simp) (by simp) (by simp) hT9.below (by omega) (by omega))
      have HA := hide (HFA.out)
      clear hT8 hT9 hb8 hb9 HR8 HR9 HR8' hT2
      go_wp2
      exact bodyPost_ret (v := .tuple #[.agg #[.bool rn8, .slice ro8 rz8.length rcap8], .agg #[.bool rn9, .slice ro9 rz9.length rcap9], .nilIface]) (by simp [results, Tryd.results21, go_sem, c0, c1, d0, d1]) rfl ⟨_, _, _, _, rfl, HF.out.1, HF.out.2.1, HA.out.1, HA.out.2, HF.out.2.2⟩
  · have hab : (an == bn) = false := by
      by_cases h : an = bn
      · exact absurd (.inl h) hpl
      · simpa using h
    have hrp : 0 < lv rs := by
      have : ¬ lv rs = 0 := fun h => hpl (.inr h)
      omega
    have hrl0 : 0 < rs.length := by
      have : rs.length ≠ 0 := fun h => by have := hrz.2 h; omega
      omega
    have hfact := quo_down an bn HV.out hrp HLT.out hab
    rw [← HX.out, ← HY.out, hab] at hfact
    have HFA := hide hfact
    have hRP := hide hrp
    clear hfact hpl hrp hrz
    go_wp2_with fail
    have hone := row_one w2 1 (by decide)
    have hba := (Below.refl w2.heap.size w2).alloc (Nat.le_refl _) (.cells #[.int .u32 1] 69)
    refine (addLimbs_any _ _ _ qs [1] (HL1.out.below hba (Nat.le_refl _)) (hone.lim 1 (by simp) (by simp)) (by omega) (by simp)).mono ?_
    rintro e w3 ⟨v3, xs, rfl, hl3, hv3, hn3, hb3⟩
    have hT3 := (hT2.later hba).later hb3
    obtain ⟨p0, p1, -, -⟩ := hT3.fst
    obtain ⟨q0, q1, -, -⟩ := hT3.snd
    have HL3 := hide hl3
    have HV3 := hide hv3
    clear hl3 hv3 hone
    go_wp2_with fail
    refine (subLimbs_any w3 _ _ b rs (HLB.out.below hT3.below (Nat.le_refl _)) (HL2.out.below (hba.trans (hb3.mono hba.size)) (Nat.le_refl _)) hnr (by have := HLT.out; omega)).mono ?_
    rintro e w4 ⟨v4, ys, rfl, hl4, hv4, hn4, hb4⟩
    have hT4 := hT3.later hb4
    have HL4 := hide hl4
    have HV4 := hide hv4
    have HL3' := hide (HL3.out.below hb4 (Nat.le_refl _))
    clear hl4 hv4 p0 p1 q0 q1 hT3 HL3 hb4 hb3 hba
    rw [show lv qs + 1 = lv xs by have := HV3.out; simpa [lv] using this.symm, show lv b - lv rs = lv ys from HV4.out.symm] at HFA
    have ha1 : 1 ≤ a.length := by
      rcases Nat.lt_or_ge a.length 1 with h | h
      · exfalso
        have e0 : lv a = 0 := by have h' : a = [] := List.eq_nil_of_length_eq_zero (by omega); rw [h']; rfl
        have e1 := HV.out
        have e2 := hRP.out
        have e3 := lv_nonneg hblb
        have e4 : LB qs := by obtain ⟨_, _, _, _, _, h, _⟩ := HL1.out; exact h
        have e5 := Int.mul_nonneg e3 (lv_nonneg e4)
        omega
      · exact h
    have hxl : xs.length ≤ n + 1 := by simp at hn3; omega
    obtain ⟨p0, p1, -, -⟩ := hT4.fst
    obtain ⟨q0, q1, -, -⟩ := hT4.snd
    have tok1 : True := trivial
    have tok2 : True := trivial
    have hn2 : ¬ (w.heap.size + 1 + 1 = w.heap.size) := by omega
    have hn3 : ¬ (w.heap.size = w.heap.size + 1 + 1) := by omega
    have hn4 : ¬ (w.heap.size + 3 = w.heap.size) := by omega
    have hn5 : ¬ (w.heap.size = w.heap.size + 3) := by omega
    have hn6 : ¬ (w.heap.size + 2 = w.heap.size) := by omega
    have hn7 : ¬ (w.heap.size = w.heap.size + 2) := by omega
    go_wp2_with fail
    go_region_held3 (fun w' => w'.cell? ⟨w.heap.size, 0, none⟩ = some (.bool an) ∧ w'.cell? ⟨w.heap.size + 1, 0, none⟩ = some (.bool bn)) (go_keep)
      (first
        | (go_at_call 33; have _t := tok1; refine (signed_any _ _ _ xs (n + 1) (by exact HL3'.out) hxl).mono ?_; rintro e w8 ⟨r8, rfl, hr8, hb8⟩; have hT8 := hT4.drew.later hb8; obtain ⟨p0', p1', -, -⟩ := hT8.fst; obtain ⟨q0', q1', -, -⟩ := hT8.snd; have HR8 := hide hr8; obtain ⟨rn8, rs8, rz8, rfl, hl8, -⟩ := hr8; obtain ⟨ro8, rcap8, rfl, -⟩ := hl8; clear tok1)
        | (go_at_call 33; have _t := tok2; refine (signed_any _ _ _ ys m ((show Lim _ _ ys from by exact HL4.out).below (drewed hb8) (Nat.le_refl _)) (by omega)).mono ?_; rintro e w9 ⟨r9, rfl, hr9, hb9⟩; have hT9 := hT8.later hb9; obtain ⟨p0'', p1'', -, -⟩ := hT9.fst; obtain ⟨q0'', q1'', -, -⟩ := hT9.snd; obtain ⟨c0, c1, f0, f1⟩ := hT9.res; obtain ⟨d0, d1, g0, g1⟩ := hT9.sec; have HR9 := hide hr9; obtain ⟨rn9, rs9, rz9, rfl, hl9, -⟩ := hr9; obtain ⟨ro9, rcap9, rfl, -⟩ := hl9; have HR8' := hide (HR8.out.below hb9 (Nat.le_refl _)); clear tok2))
    have HF := hide (boxed2 (w := w) HR8'.out HR9.out c0 c1 d0 d1 (by omega) (by simp) (by simp) (by simp) (by simp) hT9.below (by omega) (by omega))
    have HA := hide (HFA.out)
    clear hT8 hT9 hb8 hb9 HR8 HR9 HR8' hT2
    go_wp2
    exact bodyPost_ret (v := .tuple #[.agg #[.bool rn8, .slice ro8 rz8.length rcap8], .agg #[.bool rn9, .slice ro9 rz9.length rcap9], .nilIface]) (by simp [results, Tryd.results21, go_sem, c0, c1, d0, d1]) rfl ⟨_, _, _, _, rfl, HF.out.1, HF.out.2.1, HA.out.1, HA.out.2, HF.out.2.2⟩

end Go.Proofs.YtmeefloajhffbaaDoor

/- Are these numbers, and not too great? -/
namespace Go.Proofs.YtmeefloajhffbaaDoor
open Go.RowKit Limbs

/-- A number as it came in: a sign, a slice, its limbs. -/
structure Raw where
  neg : Bool
  s : Value
  zs : List Int

def Raw.good (r : Raw) : Bool := decide (r.zs.length ≤ 12) && isNum r.neg r.zs

/-- A row of such, two cells each. -/
def Raws (w : World) (B : Nat) (xs : List Raw) : Prop :=
  B < w.heap.size ∧ ∀ i r, xs[i]? = some r → w.cell? ⟨B, i * 2, none⟩ = some (.bool r.neg) ∧ w.cell? ⟨B, i * 2 + 1, none⟩ = some r.s ∧ Lim w r.s r.zs

theorem Raws.below {B C : Nat} {w w' : World} {xs : List Raw} (h : Raws w B xs) (hb : Below C w w') (hC : w.heap.size ≤ C) : Raws w' B xs := by
  obtain ⟨h1, h2⟩ := h
  refine ⟨Nat.lt_of_lt_of_le h1 hb.size, fun i r hi => ?_⟩
  obtain ⟨h3, h4, h5⟩ := h2 i r hi
  exact ⟨(hb.cell (p := ⟨B, i * 2, none⟩) (Nat.lt_of_lt_of_le h1 hC)).trans h3, (hb.cell (p := ⟨B, i * 2 + 1, none⟩) (Nat.lt_of_lt_of_le h1 hC)).trans h4, h5.below hb hC⟩


end Go.Proofs.YtmeefloajhffbaaDoor

/- Small facts: the order -1, 0, 1; structs' cells in a row. -/
namespace Go.Proofs.YtmeefloajhffbaaDoor
open Go.RowKit Limbs

theorem cmpI_anti (a b : Int) : cmpI b a = -cmpI a b := by
  unfold cmpI
  repeat' split
  all_goals omega
theorem cmpI_add (a b c : Int) : cmpI (a + c) (b + c) = cmpI a b := by
  unfold cmpI
  repeat' split
  all_goals omega
theorem cmpI_trans (a b c : Int) (h1 : cmpI a b ≤ 0) (h2 : cmpI b c ≤ 0) : cmpI a c ≤ 0 := by
  unfold cmpI at *
  repeat' split at h1
  all_goals repeat' split at h2
  all_goals repeat' split
  all_goals omega
theorem cmpI_mul (a b c : Int) (h : 0 < c) : cmpI (a * c) (b * c) = cmpI a b := by
  by_cases h1 : a < b
  · rw [cmpI_lt h1, cmpI_lt (Int.mul_lt_mul_of_pos_right h1 h)]
  · by_cases h2 : b < a
    · rw [cmpI_gt h2, cmpI_gt (Int.mul_lt_mul_of_pos_right h2 h)]
    · obtain rfl : a = b := by omega
      rw [cmpI_eq rfl, cmpI_eq rfl]

end Go.Proofs.YtmeefloajhffbaaDoor

/- Four structs' variables, wherever they lie; rows of two structs. -/
namespace Go.Proofs.YtmeefloajhffbaaDoor
open Go.RowKit Limbs

structure Hold (w W : World) (A B C D : Nat) (a0 a1 b0 b1 c0 c1 d0 d1 : Value) : Prop where
  a : Box W A a0 a1
  b : Box W B b0 b1
  c : Box W C c0 c1
  d : Box W D d0 d1
  below : Below w.heap.size w W
  la : w.heap.size ≤ A
  ab : A < B
  bc : B < C
  cd : C < D
  size : D < W.heap.size

theorem Hold.later {w W W' : World} {A B C D : Nat} {a0 a1 b0 b1 c0 c1 d0 d1 : Value} (h : Hold w W A B C D a0 a1 b0 b1 c0 c1 d0 d1) (hb : Below W.heap.size W W') : Hold w W' A B C D a0 a1 b0 b1 c0 c1 d0 d1 where
  a := h.a.later hb (by have := h.size; have := h.ab; have := h.bc; have := h.cd; omega)
  b := h.b.later hb (by have := h.size; have := h.bc; have := h.cd; omega)
  c := h.c.later hb (by have := h.size; have := h.cd; omega)
  d := h.d.later hb h.size
  below := h.below.trans (hb.mono h.below.size)
  la := h.la
  ab := h.ab
  bc := h.bc
  cd := h.cd
  size := Nat.lt_of_lt_of_le h.size hb.size

theorem Hold.drew {w W : World} {A B C D : Nat} {a0 a1 b0 b1 c0 c1 d0 d1 : Value} (h : Hold w W A B C D a0 a1 b0 b1 c0 c1 d0 d1) : Hold w W.drew A B C D a0 a1 b0 b1 c0 c1 d0 d1 :=
  ⟨h.a, h.b, h.c, h.d, h.below.drew, h.la, h.ab, h.bc, h.cd, h.size⟩

theorem Box.other {W : World} {A B : Nat} {u0 u1 : Value} (h : Box W A u0 u1) (hne : A ≠ B) (k : Nat) (u : Value) : Box (W.setCell ⟨B, k, none⟩ u) A u0 u1 := by
  obtain ⟨h1, h2, h3, h4⟩ := h
  have n1 : ∀ j, (⟨B, k, none⟩ : Addr) ≠ ⟨A, j, none⟩ := fun j e => hne (congrArg Addr.block e).symm
  exact ⟨(World.cell?_setCell_other (h := n1 0) ..).trans h1, (World.cell?_setCell_other (h := n1 1) ..).trans h2, by rw [World.frozen?_setCell]; exact h3, by rw [World.frozen?_setCell]; exact h4⟩

theorem Box.write {W : World} {B : Nat} {u0 u1 : Value} (h : Box W B u0 u1) (v0 v1 : Value) : Box ((W.setCell ⟨B, 0, none⟩ v0).setCell ⟨B, 1, none⟩ v1) B v0 v1 := by
  obtain ⟨h1, h2, h3, h4⟩ := h
  refine ⟨?_, ?_, by rw [World.frozen?_setCell, World.frozen?_setCell]; exact h3, by rw [World.frozen?_setCell, World.frozen?_setCell]; exact h4⟩
  · exact (World.cell?_setCell_other (h := fun e => by simp at e) ..).trans (World.cell?_setCell_same (h := h1) ..)
  · exact World.cell?_setCell_same (h := (World.cell?_setCell_other (h := fun e => by simp at e) ..).trans h2) ..

/-- The last two are written. -/
theorem Hold.write {w W : World} {A B C D : Nat} {a0 a1 b0 b1 c0 c1 d0 d1 : Value} (h : Hold w W A B C D a0 a1 b0 b1 c0 c1 d0 d1) (u0 u1 v0 v1 : Value) :
    Hold w ((((W.setCell ⟨C, 0, none⟩ u0).setCell ⟨C, 1, none⟩ u1).setCell ⟨D, 0, none⟩ v0).setCell ⟨D, 1, none⟩ v1) A B C D a0 a1 b0 b1 u0 u1 v0 v1 := by
  obtain ⟨ha, hb, hc, hd, hbe, hla, hab, hbc, hcd, hs⟩ := h
  refine ⟨(((ha.other (by omega) _ _).other (by omega) _ _).other (by omega) _ _).other (by omega) _ _, (((hb.other (by omega) _ _).other (by omega) _ _).other (by omega) _ _).other (by omega) _ _,
    ((hc.write u0 u1).other (by omega) _ _).other (by omega) _ _, ((hd.other (by omega) _ _).other (by omega) _ _).write v0 v1, (((hbe.setCell (by simp; omega) _).setCell (by simp; omega) _).setCell (by simp; omega) _).setCell (by simp; omega) _, hla, hab, hbc, hcd, by simpa using hs⟩

/-- A number whose memory isn't the last two. -/
theorem Hold.num {w W : World} {A B C D : Nat} {a0 a1 c0 c1 d0 d1 b0 b1 : Value} (h : Hold w W A B C D a0 a1 b0 b1 c0 c1 d0 d1) (hc0 : ∀ z, c0 ≠ .int .u32 z) (hc1 : ∀ z, c1 ≠ .int .u32 z) (hd0 : ∀ z, d0 ≠ .int .u32 z) (hd1 : ∀ z, d1 ≠ .int .u32 z)
    {qn rn : Bool} {qs rs : Value} {q r : Int} {n m : Nat} (hq : NumL W (.agg #[.bool qn, qs]) q n) (hr : NumL W (.agg #[.bool rn, rs]) r m) :
    NumL ((((W.setCell ⟨C, 0, none⟩ (.bool qn)).setCell ⟨C, 1, none⟩ qs).setCell ⟨D, 0, none⟩ (.bool rn)).setCell ⟨D, 1, none⟩ rs) (.agg #[.bool qn, qs]) q n ∧
    NumL ((((W.setCell ⟨C, 0, none⟩ (.bool qn)).setCell ⟨C, 1, none⟩ qs).setCell ⟨D, 0, none⟩ (.bool rn)).setCell ⟨D, 1, none⟩ rs) (.agg #[.bool rn, rs]) r m := by
  have hh := boxed2 (w := w) hq hr h.c.1 h.c.2.1 h.d.1 h.d.2.1 (by have := h.cd; omega) hc0 hc1 hd0 hd1 h.below (by have := h.la; have := h.ab; have := h.bc; omega) (by have := h.la; have := h.ab; have := h.bc; have := h.cd; omega)
  exact ⟨hh.1, hh.2.1⟩

end Go.Proofs.YtmeefloajhffbaaDoor
