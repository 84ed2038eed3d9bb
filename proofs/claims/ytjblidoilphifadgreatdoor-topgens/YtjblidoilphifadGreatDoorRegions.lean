/- Numbers divided, walked. -/
import Derived.Test.YtjblidoilphifadGreatDoorDiv
import Derived.Test.YtjblidoilphifadGreatDoorOf
import Derived.Deep.RegionHeld3

namespace Go.Proofs.YtjblidoilphifadGreatDoor
open Go.RowKit Limbs

set_option maxRecDepth 100000 in
set_option maxHeartbeats 1600000 in
theorem div_zero (w : World) (va vb : Value) (x : Int) (n m : Nat) (ha : NumL w va x n) (hb : NumL w vb 0 m) :
    Calls Tryz.prog 89 #[va, vb] w fun e w' => e = .returned (.tuple #[.agg #[.bool false, .slice none 0 0], .agg #[.bool false, .slice none 0 0], .iface 89 (.int .i64 4)]) ∧ Below w.heap.size w w' := by
  have HB := hide hb
  obtain ⟨an, sa, a, rfl, hla, -⟩ := ha
  obtain ⟨bn, sb, b, rfl, hlb, -⟩ := hb
  obtain ⟨ao, acap, rfl, -⟩ := hla
  obtain ⟨bo, bcap, rfl, -⟩ := hlb
  go_enter Tryz.func89, Tryz.ntmps89
  go_wp2_with fail
  have hT := four w (.bool an) (.slice ao a.length acap) (.bool bn) (.slice bo b.length bcap) (.bool false) (.slice none 0 0) (.bool false) (.slice none 0 0) 43 43 43 43
  generalize (((w.alloc (.cells #[.bool an, .slice ao a.length acap] 43)).alloc (.cells #[.bool bn, .slice bo b.length bcap] 43)).alloc (.cells #[.bool false, .slice none 0 0] 43)).alloc (.cells #[.bool false, .slice none 0 0] 43) = W at *
  refine (zero_any W _ 0 m (HB.out.below hT.below (Nat.le_refl _))).mono ?_
  rintro e w1 ⟨rfl, hb1⟩
  rw [decide_eq_true rfl]
  have hT1 := hT.later hb1
  obtain ⟨c0, c1, f0, f1⟩ := hT1.res
  obtain ⟨d0, d1, g0, g1⟩ := hT1.sec
  have HF := hide ((((hT1.below.setCell (p := ⟨w.heap.size + 2, 0, none⟩) (by simp) (.bool false)).setCell (p := ⟨w.heap.size + 2, 1, none⟩) (by simp) (.slice none 0 0)).setCell (p := ⟨w.heap.size + 3, 0, none⟩) (by simp) (.bool false)).setCell (p := ⟨w.heap.size + 3, 1, none⟩) (by simp) (.slice none 0 0))
  clear hT hT1 hb1
  go_wp2
  exact bodyPost_ret (v := .tuple #[.agg #[.bool false, .slice none 0 0], .agg #[.bool false, .slice none 0 0], .iface 89 (.int .i64 4)]) (by simp [results, Tryz.results89, go_sem, c0, c1, d0, d1]) rfl ⟨rfl, HF.out⟩

set_option maxRecDepth 100000 in
set_option maxHeartbeats 3200000 in
theorem div_any (w : World) (va vb : Value) (x y : Int) (n m : Nat) (ha : NumL w va x n) (hb : NumL w vb y m) (hy : y ≠ 0) (hn : n ≤ 800000) :
    Calls Tryz.prog 89 #[va, vb] w fun e w' => QuoPost w x y n m e w' := by
  have HB := hide hb
  obtain ⟨an, sa, a, rfl, hla, nra, -, hx, hna⟩ := ha
  obtain ⟨bn, sb, b, rfl, hlb, nrb, -, hyy, hnb⟩ := hb
  have HLA := hide hla
  have HLB := hide hlb
  obtain ⟨ao, acap, rfl, -, -, halb, -⟩ := hla
  obtain ⟨bo, bcap, rfl, -, -, hblb, -⟩ := hlb
  have hb0 : b.length ≠ 0 := fun h => hy (by rw [hyy, List.eq_nil_of_length_eq_zero h]; simp [lv])
  change x = sg an (lv a) at hx
  change y = sg bn (lv b) at hyy
  have HX := hide hx; have HY := hide hyy
  clear hx hyy
  go_enter Tryz.func89, Tryz.ntmps89
  go_wp2_with fail
  have hT := four w (.bool an) (.slice ao a.length acap) (.bool bn) (.slice bo b.length bcap) (.bool false) (.slice none 0 0) (.bool false) (.slice none 0 0) 43 43 43 43
  generalize (((w.alloc (.cells #[.bool an, .slice ao a.length acap] 43)).alloc (.cells #[.bool bn, .slice bo b.length bcap] 43)).alloc (.cells #[.bool false, .slice none 0 0] 43)).alloc (.cells #[.bool false, .slice none 0 0] 43) = W at *
  refine (zero_any W _ y m (HB.out.below hT.below (Nat.le_refl _))).mono ?_
  rintro e w1 ⟨rfl, hb1⟩
  rw [decide_eq_false hy]
  have hT1 := hT.later hb1
  obtain ⟨p0, p1, -, -⟩ := hT1.fst
  obtain ⟨q0, q1, -, -⟩ := hT1.snd
  go_wp2_with fail
  refine (divLimbs_any w1 _ _ a b (HLA.out.below hT1.below (Nat.le_refl _)) (HLB.out.below hT1.below (Nat.le_refl _)) nra nrb hb0 (by omega)).mono ?_
  rintro e w2 ⟨v1, v2, qs, rs, rfl, hl1, hl2, hnq, hnr, hval, hlt, hql, hrl, hb2⟩
  have HV := hide hval
  have HLT := hide hlt
  have HL1 := hide hl1
  have HL2 := hide hl2
  have hT2 := hT1.later hb2
  clear p0 p1 q0 q1 hval hlt hT hT1 hb1
  obtain ⟨ro, rcap, rfl, -, -, hrlb, -⟩ := hl2
  have hr0 := lv_nonneg hrlb
  have hrz := lv_zero_iff hrlb hnr
  clear hl1
  obtain ⟨p0, p1, -, -⟩ := hT2.fst
  obtain ⟨q0, q1, -, -⟩ := hT2.snd
  by_cases hpl : an = bn ∨ lv rs = 0
  · have hfact := quo_plain an bn HV.out hr0 HLT.out hpl
    rw [← HX.out, ← HY.out] at hfact
    rcases (show (an == bn) = true ∨ ((an == bn) = false ∧ rs.length = 0) by
      by_cases h : an = bn
      · exact .inl (by simp [h])
      · exact .inr ⟨by simpa using h, hrz.1 (hpl.resolve_left h)⟩) with hab | ⟨hab, hr0'⟩
    · clear hpl
      rw [hab] at hfact
      have HFA := hide hfact
      clear hfact
      obtain ⟨p0, p1, -, -⟩ := hT2.fst
      obtain ⟨q0, q1, -, -⟩ := hT2.snd
      have tok1 : True := trivial
      have tok2 : True := trivial
      have hn2 : ¬ (w.heap.size + 1 + 1 = w.heap.size) := by omega
      have hn3 : ¬ (w.heap.size = w.heap.size + 1 + 1) := by omega
      have hn4 : ¬ (w.heap.size + 3 = w.heap.size) := by omega
      have hn5 : ¬ (w.heap.size = w.heap.size + 3) := by omega
      have hn6 : ¬ (w.heap.size + 2 = w.heap.size) := by omega
      have hn7 : ¬ (w.heap.size = w.heap.size + 2) := by omega
      go_wp2_with fail
      go_region_held3 (fun w' => w'.cell? ⟨w.heap.size, 0, none⟩ = some (.bool an) ∧ w'.cell? ⟨w.heap.size + 1, 0, none⟩ = some (.bool bn)) (go_keep)
        (first
          | (go_at_call 83; have _t := tok1; refine (signed_any _ _ _ qs (n + 1) (by exact HL1.out) (by omega)).mono ?_; rintro e w8 ⟨r8, rfl, hr8, hb8⟩; have hT8 := hT2.drew.later hb8; obtain ⟨p0', p1', -, -⟩ := hT8.fst; obtain ⟨q0', q1', -, -⟩ := hT8.snd; have HR8 := hide hr8; obtain ⟨rn8, rs8, rz8, rfl, hl8, -⟩ := hr8; obtain ⟨ro8, rcap8, rfl, -⟩ := hl8; clear tok1)
          | (go_at_call 83; have _t := tok2; refine (signed_any _ _ _ rs m ((show Lim _ _ rs from by exact HL2.out).below (drewed hb8) (Nat.le_refl _)) (by omega)).mono ?_; rintro e w9 ⟨r9, rfl, hr9, hb9⟩; have hT9 := hT8.later hb9; obtain ⟨p0'', p1'', -, -⟩ := hT9.fst; obtain ⟨q0'', q1'', -, -⟩ := hT9.snd; obtain ⟨c0, c1, f0, f1⟩ := hT9.res; obtain ⟨d0, d1, g0, g1⟩ := hT9.sec; have HR9 := hide hr9; obtain ⟨rn9, rs9, rz9, rfl, hl9, -⟩ := hr9; obtain ⟨ro9, rcap9, rfl, -⟩ := hl9; have HR8' := hide (HR8.out.below hb9 (Nat.le_refl _)); clear tok2))
      have HF := hide (boxed2 (w := w) HR8'.out HR9.out c0 c1 d0 d1 (by omega) (by simp) (by simp) (by simp) (by simp) hT9.below (by omega) (by omega))
      have HA := hide (HFA.out)
      clear hT8 hT9 hb8 hb9 HR8 HR9 HR8' hT2
      go_wp2
      exact bodyPost_ret (v := .tuple #[.agg #[.bool rn8, .slice ro8 rz8.length rcap8], .agg #[.bool rn9, .slice ro9 rz9.length rcap9], .nilIface]) (by simp [results, Tryz.results89, go_sem, c0, c1, d0, d1]) rfl ⟨_, _, _, _, rfl, HF.out.1, HF.out.2.1, HA.out.1, HA.out.2, HF.out.2.2⟩
    · obtain rfl : rs = [] := List.eq_nil_of_length_eq_zero hr0'
      rw [hab] at hfact
      have HFA := hide hfact
      clear hfact hpl hr0' hrz
      obtain ⟨p0, p1, -, -⟩ := hT2.fst
      obtain ⟨q0, q1, -, -⟩ := hT2.snd
      have tok1 : True := trivial
      have tok2 : True := trivial
      have hn2 : ¬ (w.heap.size + 1 + 1 = w.heap.size) := by omega
      have hn3 : ¬ (w.heap.size = w.heap.size + 1 + 1) := by omega
      have hn4 : ¬ (w.heap.size + 3 = w.heap.size) := by omega
      have hn5 : ¬ (w.heap.size = w.heap.size + 3) := by omega
      have hn6 : ¬ (w.heap.size + 2 = w.heap.size) := by omega
      have hn7 : ¬ (w.heap.size = w.heap.size + 2) := by omega
      go_wp2_with fail
      go_region_held3 (fun w' => w'.cell? ⟨w.heap.size, 0, none⟩ = some (.bool an) ∧ w'.cell? ⟨w.heap.size + 1, 0, none⟩ = some (.bool bn)) (go_keep)
        (first
          | (go_at_call 83; have _t := tok1; refine (signed_any _ _ _ qs (n + 1) (by exact HL1.out) (by omega)).mono ?_; rintro e w8 ⟨r8, rfl, hr8, hb8⟩; have hT8 := hT2.drew.later hb8; obtain ⟨p0', p1', -, -⟩ := hT8.fst; obtain ⟨q0', q1', -, -⟩ := hT8.snd; have HR8 := hide hr8; obtain ⟨rn8, rs8, rz8, rfl, hl8, -⟩ := hr8; obtain ⟨ro8, rcap8, rfl, -⟩ := hl8; clear tok1)
          | (go_at_call 83; have _t := tok2; refine (signed_any _ _ _ [] m ((show Lim _ _ [] from by exact HL2.out).below (drewed hb8) (Nat.le_refl _)) (by simp)).mono ?_; rintro e w9 ⟨r9, rfl, hr9, hb9⟩; have hT9 := hT8.later hb9; obtain ⟨p0'', p1'', -, -⟩ := hT9.fst; obtain ⟨q0'', q1'', -, -⟩ := hT9.snd; obtain ⟨c0, c1, f0, f1⟩ := hT9.res; obtain ⟨d0, d1, g0, g1⟩ := hT9.sec; have HR9 := hide hr9; obtain ⟨rn9, rs9, rz9, rfl, hl9, -⟩ := hr9; obtain ⟨ro9, rcap9, rfl, -⟩ := hl9; have HR8' := hide (HR8.out.below hb9 (Nat.le_refl _)); clear tok2))
      have HF := hide (boxed2 (w := w) HR8'.out HR9.out c0 c1 d0 d1 (by omega) (by simp) (by simp) (by simp) (by simp) hT9.below (by omega) (by omega))
      have HA := hide (HFA.out)
      clear hT8 hT9 hb8 hb9 HR8 HR9 HR8' hT2
      go_wp2
      exact bodyPost_ret (v := .tuple #[.agg #[.bool rn8, .slice ro8 rz8.length rcap8], .agg #[.bool rn9, .slice ro9 rz9.length rcap9], .nilIface]) (by simp [results, Tryz.results89, go_sem, c0, c1, d0, d1]) rfl ⟨_, _, _, _, rfl, HF.out.1, HF.out.2.1, HA.out.1, HA.out.2, HF.out.2.2⟩
  · have hab : (an == bn) = false := by
      by_cases h : an = bn
      · exact absurd (.inl h) hpl
      · simpa using h
    have hrp : 0 < lv rs := by
      have : ¬ lv rs = 0 := fun h => hpl (.inr h)
      omega
    have hrl0 : 0 < rs.length := by
      have : rs.length ≠ 0 := fun h => by have := hrz.2 h; omega
      omega
    have hfact := quo_down an bn HV.out hrp HLT.out hab
    rw [← HX.out, ← HY.out, hab] at hfact
    have HFA := hide hfact
    have hRP := hide hrp
    clear hfact hpl hrp hrz
    go_wp2_with fail
    have hone := row_one w2 1 (by decide)
    have hba := (Below.refl w2.heap.size w2).alloc (Nat.le_refl _) (.cells #[.int .u32 1] 122)
    refine (addLimbs_any _ _ _ qs [1] (HL1.out.below hba (Nat.le_refl _)) (hone.lim 1 (by simp) (by simp)) (by omega) (by simp)).mono ?_
    rintro e w3 ⟨v3, xs, rfl, hl3, hv3, hn3, hb3⟩
    have hT3 := (hT2.later hba).later hb3
    obtain ⟨p0, p1, -, -⟩ := hT3.fst
    obtain ⟨q0, q1, -, -⟩ := hT3.snd
    have HL3 := hide hl3
    have HV3 := hide hv3
    clear hl3 hv3 hone
    go_wp2_with fail
    refine (subLimbs_any w3 _ _ b rs (HLB.out.below hT3.below (Nat.le_refl _)) (HL2.out.below (hba.trans (hb3.mono hba.size)) (Nat.le_refl _)) hnr (by have := HLT.out; omega)).mono ?_
    rintro e w4 ⟨v4, ys, rfl, hl4, hv4, hn4, hb4⟩
    have hT4 := hT3.later hb4
    have HL4 := hide hl4
    have HV4 := hide hv4
    have HL3' := hide (HL3.out.below hb4 (Nat.le_refl _))
    clear hl4 hv4 p0 p1 q0 q1 hT3 HL3 hb4 hb3 hba
    rw [show lv qs + 1 = lv xs by have := HV3.out; simpa [lv] using this.symm, show lv b - lv rs = lv ys from HV4.out.symm] at HFA
    have ha1 : 1 ≤ a.length := by
      rcases Nat.lt_or_ge a.length 1 with h | h
      · exfalso
        have e0 : lv a = 0 := by have h' : a = [] := List.eq_nil_of_length_eq_zero (by omega); rw [h']; rfl
        have e1 := HV.out
        have e2 := hRP.out
        have e3 := lv_nonneg hblb
        have e4 : LB qs := by obtain ⟨_, _, _, _, _, h, _⟩ := HL1.out; exact h
        have e5 := Int.mul_nonneg e3 (lv_nonneg e4)
        omega
      · exact h
    have hxl : xs.length ≤ n + 1 := by simp at hn3; omega
    obtain ⟨p0, p1, -, -⟩ := hT4.fst
    obtain ⟨q0, q1, -, -⟩ := hT4.snd
    have tok1 : True := trivial
    have tok2 : True := trivial
    have hn2 : ¬ (w.heap.size + 1 + 1 = w.heap.size) := by omega
    have hn3 : ¬ (w.heap.size = w.heap.size + 1 + 1) := by omega
    have hn4 : ¬ (w.heap.size + 3 = w.heap.size) := by omega
    have hn5 : ¬ (w.heap.size = w.heap.size + 3) := by omega
    have hn6 : ¬ (w.heap.size + 2 = w.heap.size) := by omega
    have hn7 : ¬ (w.heap.size = w.heap.size + 2) := by omega
    go_wp2_with fail
    go_region_held3 (fun w' => w'.cell? ⟨w.heap.size, 0, none⟩ = some (.bool an) ∧ w'.cell? ⟨w.heap.size + 1, 0, none⟩ = some (.bool bn)) (go_keep)
      (first
        | (go_at_call 83; have _t := tok1; refine (signed_any _ _ _ xs (n + 1) (by exact HL3'.out) hxl).mono ?_; rintro e w8 ⟨r8, rfl, hr8, hb8⟩; have hT8 := hT4.drew.later hb8; obtain ⟨p0', p1', -, -⟩ := hT8.fst; obtain ⟨q0', q1', -, -⟩ := hT8.snd; have HR8 := hide hr8; obtain ⟨rn8, rs8, rz8, rfl, hl8, -⟩ := hr8; obtain ⟨ro8, rcap8, rfl, -⟩ := hl8; clear tok1)
        | (go_at_call 83; have _t := tok2; refine (signed_any _ _ _ ys m ((show Lim _ _ ys from by exact HL4.out).below (drewed hb8) (Nat.le_refl _)) (by omega)).mono ?_; rintro e w9 ⟨r9, rfl, hr9, hb9⟩; have hT9 := hT8.later hb9; obtain ⟨p0'', p1'', -, -⟩ := hT9.fst; obtain ⟨q0'', q1'', -, -⟩ := hT9.snd; obtain ⟨c0, c1, f0, f1⟩ := hT9.res; obtain ⟨d0, d1, g0, g1⟩ := hT9.sec; have HR9 := hide hr9; obtain ⟨rn9, rs9, rz9, rfl, hl9, -⟩ := hr9; obtain ⟨ro9, rcap9, rfl, -⟩ := hl9; have HR8' := hide (HR8.out.below hb9 (Nat.le_refl _)); clear tok2))
    have HF := hide (boxed2 (w := w) HR8'.out HR9.out c0 c1 d0 d1 (by omega) (by simp) (by simp) (by simp) (by simp) hT9.below (by omega) (by omega))
    have HA := hide (HFA.out)
    clear hT8 hT9 hb8 hb9 HR8 HR9 HR8' hT2
    go_wp2
    exact bodyPost_ret (v := .tuple #[.agg #[.bool rn8, .slice ro8 rz8.length rcap8], .agg #[.bool rn9, .slice ro9 rz9.length rcap9], .nilIface]) (by simp [results, Tryz.results89, go_sem, c0, c1, d0, d1]) rfl ⟨_, _, _, _, rfl, HF.out.1, HF.out.2.1, HA.out.1, HA.out.2, HF.out.2.2⟩

end Go.Proofs.YtjblidoilphifadGreatDoor

/- Are these numbers, and not too great? -/
namespace Go.Proofs.YtjblidoilphifadGreatDoor
open Go.RowKit Limbs

theorem ret_bool {a b : Bool} (h : a = b) : Ending.returned (.bool a) = .returned (.bool b) := by rw [h]

/-- A number as it came in: a sign, a slice, its limbs. -/
structure Raw where
  neg : Bool
  s : Value
  zs : List Int

def Raw.good (r : Raw) : Bool := decide (r.zs.length ≤ 12) && isNum r.neg r.zs

/-- A row of such, two cells each. -/
def Raws (w : World) (B : Nat) (xs : List Raw) : Prop :=
  B < w.heap.size ∧ ∀ i r, xs[i]? = some r → w.cell? ⟨B, i * 2, none⟩ = some (.bool r.neg) ∧ w.cell? ⟨B, i * 2 + 1, none⟩ = some r.s ∧ Lim w r.s r.zs

theorem Raws.below {B C : Nat} {w w' : World} {xs : List Raw} (h : Raws w B xs) (hb : Below C w w') (hC : w.heap.size ≤ C) : Raws w' B xs := by
  obtain ⟨h1, h2⟩ := h
  refine ⟨Nat.lt_of_lt_of_le h1 hb.size, fun i r hi => ?_⟩
  obtain ⟨h3, h4, h5⟩ := h2 i r hi
  exact ⟨(hb.cell (p := ⟨B, i * 2, none⟩) (Nat.lt_of_lt_of_le h1 hC)).trans h3, (hb.cell (p := ⟨B, i * 2 + 1, none⟩) (Nat.lt_of_lt_of_le h1 hC)).trans h4, h5.below hb hC⟩


end Go.Proofs.YtjblidoilphifadGreatDoor

/- Small facts: the order -1, 0, 1; structs' cells in a row. -/
namespace Go.Proofs.YtjblidoilphifadGreatDoor
open Go.RowKit Limbs

theorem cmpI_bd (a b : Int) : -1 ≤ cmpI a b ∧ cmpI a b ≤ 1 := by unfold cmpI; split; decide; split <;> decide

theorem cmpI_anti (a b : Int) : cmpI b a = -cmpI a b := by
  unfold cmpI
  repeat' split
  all_goals omega
theorem cmpI_add (a b c : Int) : cmpI (a + c) (b + c) = cmpI a b := by
  unfold cmpI
  repeat' split
  all_goals omega
theorem cmpI_trans (a b c : Int) (h1 : cmpI a b ≤ 0) (h2 : cmpI b c ≤ 0) : cmpI a c ≤ 0 := by
  unfold cmpI at *
  repeat' split at h1
  all_goals repeat' split at h2
  all_goals repeat' split
  all_goals omega
theorem cmpI_mul (a b c : Int) (h : 0 < c) : cmpI (a * c) (b * c) = cmpI a b := by
  by_cases h1 : a < b
  · rw [cmpI_lt h1, cmpI_lt (Int.mul_lt_mul_of_pos_right h1 h)]
  · by_cases h2 : b < a
    · rw [cmpI_gt h2, cmpI_gt (Int.mul_lt_mul_of_pos_right h2 h)]
    · obtain rfl : a = b := by omega
      rw [cmpI_eq rfl, cmpI_eq rfl]

/-- Three structs' cells in a row. -/
theorem raws3 (W : World) (n1 n2 n3 : Bool) (s1 s2 s3 : Value) (z1 z2 z3 : List Int) (t : TypeId) (h1 : Lim W s1 z1) (h2 : Lim W s2 z2) (h3 : Lim W s3 z3) :
    Raws (W.alloc (.cells #[.bool n1, s1, .bool n2, s2, .bool n3, s3] t)) W.heap.size [⟨n1, s1, z1⟩, ⟨n2, s2, z2⟩, ⟨n3, s3, z3⟩] := by
  have hb : ∀ {s z}, Lim W s z → Lim (W.alloc (.cells #[.bool n1, s1, .bool n2, s2, .bool n3, s3] t)) s z := fun h => h.below ((Below.refl _ _).alloc (Nat.le_refl _) _) (Nat.le_refl _)
  refine ⟨by simp, fun i r hi => ?_⟩
  match i, hi with
  | 0, hi => simp at hi; subst hi; exact ⟨by simp, by simp, hb h1⟩
  | 1, hi => simp at hi; subst hi; exact ⟨by simp, by simp, hb h2⟩
  | 2, hi => simp at hi; subst hi; exact ⟨by simp, by simp, hb h3⟩

end Go.Proofs.YtjblidoilphifadGreatDoor

/- Four structs' variables, wherever they lie; rows of two structs. -/
namespace Go.Proofs.YtjblidoilphifadGreatDoor
open Go.RowKit Limbs

structure Hold (w W : World) (A B C D : Nat) (a0 a1 b0 b1 c0 c1 d0 d1 : Value) : Prop where
  a : Box W A a0 a1
  b : Box W B b0 b1
  c : Box W C c0 c1
  d : Box W D d0 d1
  below : Below w.heap.size w W
  la : w.heap.size ≤ A
  ab : A < B
  bc : B < C
  cd : C < D
  size : D < W.heap.size

theorem Hold.later {w W W' : World} {A B C D : Nat} {a0 a1 b0 b1 c0 c1 d0 d1 : Value} (h : Hold w W A B C D a0 a1 b0 b1 c0 c1 d0 d1) (hb : Below W.heap.size W W') : Hold w W' A B C D a0 a1 b0 b1 c0 c1 d0 d1 where
  a := h.a.later hb (by have := h.size; have := h.ab; have := h.bc; have := h.cd; omega)
  b := h.b.later hb (by have := h.size; have := h.bc; have := h.cd; omega)
  c := h.c.later hb (by have := h.size; have := h.cd; omega)
  d := h.d.later hb h.size
  below := h.below.trans (hb.mono h.below.size)
  la := h.la
  ab := h.ab
  bc := h.bc
  cd := h.cd
  size := Nat.lt_of_lt_of_le h.size hb.size

theorem Hold.drew {w W : World} {A B C D : Nat} {a0 a1 b0 b1 c0 c1 d0 d1 : Value} (h : Hold w W A B C D a0 a1 b0 b1 c0 c1 d0 d1) : Hold w W.drew A B C D a0 a1 b0 b1 c0 c1 d0 d1 :=
  ⟨h.a, h.b, h.c, h.d, h.below.drew, h.la, h.ab, h.bc, h.cd, h.size⟩

theorem Box.other {W : World} {A B : Nat} {u0 u1 : Value} (h : Box W A u0 u1) (hne : A ≠ B) (k : Nat) (u : Value) : Box (W.setCell ⟨B, k, none⟩ u) A u0 u1 := by
  obtain ⟨h1, h2, h3, h4⟩ := h
  have n1 : ∀ j, (⟨B, k, none⟩ : Addr) ≠ ⟨A, j, none⟩ := fun j e => hne (congrArg Addr.block e).symm
  exact ⟨(World.cell?_setCell_other (h := n1 0) ..).trans h1, (World.cell?_setCell_other (h := n1 1) ..).trans h2, by rw [World.frozen?_setCell]; exact h3, by rw [World.frozen?_setCell]; exact h4⟩

theorem Box.write {W : World} {B : Nat} {u0 u1 : Value} (h : Box W B u0 u1) (v0 v1 : Value) : Box ((W.setCell ⟨B, 0, none⟩ v0).setCell ⟨B, 1, none⟩ v1) B v0 v1 := by
  obtain ⟨h1, h2, h3, h4⟩ := h
  refine ⟨?_, ?_, by rw [World.frozen?_setCell, World.frozen?_setCell]; exact h3, by rw [World.frozen?_setCell, World.frozen?_setCell]; exact h4⟩
  · exact (World.cell?_setCell_other (h := fun e => by simp at e) ..).trans (World.cell?_setCell_same (h := h1) ..)
  · exact World.cell?_setCell_same (h := (World.cell?_setCell_other (h := fun e => by simp at e) ..).trans h2) ..

/-- The last two are written. -/
theorem Hold.write {w W : World} {A B C D : Nat} {a0 a1 b0 b1 c0 c1 d0 d1 : Value} (h : Hold w W A B C D a0 a1 b0 b1 c0 c1 d0 d1) (u0 u1 v0 v1 : Value) :
    Hold w ((((W.setCell ⟨C, 0, none⟩ u0).setCell ⟨C, 1, none⟩ u1).setCell ⟨D, 0, none⟩ v0).setCell ⟨D, 1, none⟩ v1) A B C D a0 a1 b0 b1 u0 u1 v0 v1 := by
  obtain ⟨ha, hb, hc, hd, hbe, hla, hab, hbc, hcd, hs⟩ := h
  refine ⟨(((ha.other (by omega) _ _).other (by omega) _ _).other (by omega) _ _).other (by omega) _ _, (((hb.other (by omega) _ _).other (by omega) _ _).other (by omega) _ _).other (by omega) _ _,
    ((hc.write u0 u1).other (by omega) _ _).other (by omega) _ _, ((hd.other (by omega) _ _).other (by omega) _ _).write v0 v1, (((hbe.setCell (by simp; omega) _).setCell (by simp; omega) _).setCell (by simp; omega) _).setCell (by simp; omega) _, hla, hab, hbc, hcd, by simpa using hs⟩

/-- A number whose memory isn't the last two. -/
theorem Hold.num {w W : World} {A B C D : Nat} {a0 a1 c0 c1 d0 d1 b0 b1 : Value} (h : Hold w W A B C D a0 a1 b0 b1 c0 c1 d0 d1) (hc0 : ∀ z, c0 ≠ .int .u32 z) (hc1 : ∀ z, c1 ≠ .int .u32 z) (hd0 : ∀ z, d0 ≠ .int .u32 z) (hd1 : ∀ z, d1 ≠ .int .u32 z)
    {qn rn : Bool} {qs rs : Value} {q r : Int} {n m : Nat} (hq : NumL W (.agg #[.bool qn, qs]) q n) (hr : NumL W (.agg #[.bool rn, rs]) r m) :
    NumL ((((W.setCell ⟨C, 0, none⟩ (.bool qn)).setCell ⟨C, 1, none⟩ qs).setCell ⟨D, 0, none⟩ (.bool rn)).setCell ⟨D, 1, none⟩ rs) (.agg #[.bool qn, qs]) q n ∧
    NumL ((((W.setCell ⟨C, 0, none⟩ (.bool qn)).setCell ⟨C, 1, none⟩ qs).setCell ⟨D, 0, none⟩ (.bool rn)).setCell ⟨D, 1, none⟩ rs) (.agg #[.bool rn, rs]) r m := by
  have hh := boxed2 (w := w) hq hr h.c.1 h.c.2.1 h.d.1 h.d.2.1 (by have := h.cd; omega) hc0 hc1 hd0 hd1 h.below (by have := h.la; have := h.ab; have := h.bc; omega) (by have := h.la; have := h.ab; have := h.bc; have := h.cd; omega)
  exact ⟨hh.1, hh.2.1⟩

theorem hold_new {w W : World} {a0 a1 b0 b1 : Value} (h : Two w W a0 a1 b0 b1) (c0 c1 d0 d1 : Value) (t1 t2 : TypeId) : Hold w ((W.alloc (.cells #[c0, c1] t1)).alloc (.cells #[d0, d1] t2)) w.heap.size (w.heap.size + 1) W.heap.size (W.heap.size + 1) a0 a1 b0 b1 c0 c1 d0 d1 where
  a := h.fst.later (((Below.refl _ _).alloc (Nat.le_refl _) _).alloc (by simp) _ : Below W.heap.size _ _) (by have := h.size; omega)
  b := h.res.later (((Below.refl _ _).alloc (Nat.le_refl _) _).alloc (by simp) _ : Below W.heap.size _ _) h.size
  c := (box_new W _ _ _ _ rfl).later ((Below.refl _ _).alloc (by simp) _ : Below (W.heap.size + 1) _ _) (by omega)
  d := box_new _ _ _ _ _ (by simp)
  below := (h.below.alloc h.below.size _).alloc (by have := h.below.size; simp; omega) _
  la := Nat.le_refl _
  ab := by omega
  bc := h.size
  cd := by omega
  size := by simp

/-- Two structs' cells in a row. -/
theorem raws2 (W : World) (n1 n2 : Bool) (s1 s2 : Value) (z1 z2 : List Int) (t : TypeId) (h1 : Lim W s1 z1) (h2 : Lim W s2 z2) :
    Raws (W.alloc (.cells #[.bool n1, s1, .bool n2, s2] t)) W.heap.size [⟨n1, s1, z1⟩, ⟨n2, s2, z2⟩] := by
  refine ⟨by simp, fun i r hi => ?_⟩
  have hb := (Below.refl W.heap.size W).alloc (Nat.le_refl _) (.cells #[.bool n1, s1, .bool n2, s2] t)
  have hi' : i < 2 := by
    by_cases h : i < 2
    · exact h
    · rw [List.getElem?_eq_none (by simp; omega)] at hi; cases hi
  rcases (by omega : i = 0 ∨ i = 1) with rfl | rfl
  all_goals
    simp at hi
    subst hi
    refine ⟨by simp, by simp, ?_⟩
  · exact h1.below hb (Nat.le_refl _)
  · exact h2.below hb (Nat.le_refl _)

end Go.Proofs.YtjblidoilphifadGreatDoor

/- Euclid's steps with what they are made of: the arithmetic; a number's sign; what lies in a variable. -/
namespace Go.Proofs.YtjblidoilphifadGreatDoor
open Go.RowKit Limbs

def ab (z : Int) : Int := if z < 0 then -z else z
def sgn (z : Int) : Int := if z = 0 then 0 else if z < 0 then -1 else 1

theorem ab_nonneg (z : Int) : 0 ≤ ab z := by unfold ab; split <;> omega
theorem ab_sgn (z : Int) : ab z = sgn z * z := by
  unfold ab sgn
  repeat' split
  all_goals omega
theorem sgn_ab (z : Int) : z = sgn z * ab z := by
  unfold ab sgn
  repeat' split
  all_goals omega
theorem ab_sgn_le (z : Int) : ab (sgn z) ≤ 1 := by
  unfold sgn
  repeat' split
  all_goals decide

/-- all along, and how great they are -/
structure Bez (K a b g h x u y v : Int) : Prop where
  eg : g = x * a + y * b
  eh : h = u * a + v * b
  g0 : 0 ≤ g
  h0 : 0 ≤ h
  sx : x * u ≤ 0
  sy : y * v ≤ 0
  bx : ab x * h + ab u * g ≤ ab b
  by' : ab y * h + ab v * g ≤ ab a
  spa : ∃ p q, a = p * g + q * h
  spb : ∃ p q, b = p * g + q * h
  ka : ab a ≤ K
  kb : ab b ≤ K
  kx : ab x ≤ K
  ku : ab u ≤ K
  ky : ab y ≤ K
  kv : ab v ≤ K
  kg : g ≤ K
  kh : h ≤ K

theorem Bez.start {K a b : Int} (hK : 1 ≤ K) (ha : ab a ≤ K) (hb : ab b ≤ K) : Bez K a b (ab a) (ab b) (sgn a) 0 0 (sgn b) where
  eg := by rw [ab_sgn]; omega
  eh := by rw [ab_sgn]; omega
  g0 := ab_nonneg a
  h0 := ab_nonneg b
  sx := by omega
  sy := by omega
  bx := by
    have : ab (sgn a) * ab b ≤ 1 * ab b := Int.mul_le_mul_of_nonneg_right (ab_sgn_le a) (ab_nonneg b)
    have e : ab 0 * ab a = 0 := by simp [ab]
    omega
  by' := by
    have : ab (sgn b) * ab a ≤ 1 * ab a := Int.mul_le_mul_of_nonneg_right (ab_sgn_le b) (ab_nonneg a)
    have e : ab 0 * ab b = 0 := by simp [ab]
    omega
  spa := ⟨sgn a, 0, by have := sgn_ab a; omega⟩
  spb := ⟨0, sgn b, by have := sgn_ab b; omega⟩
  ka := ha
  kb := hb
  kx := by have := ab_sgn_le a; omega
  ku := by simp [ab]; omega
  ky := by simp [ab]; omega
  kv := by have := ab_sgn_le b; omega
  kg := ha
  kh := hb

theorem ab_sub {x u Q : Int} (hQ : 0 ≤ Q) (h : x * u ≤ 0) : ab (x - Q * u) = ab x + Q * ab u := by
  rcases (by omega : u = 0 ∨ 0 < u ∨ u < 0) with hu | hu | hu
  · subst hu; simp [ab]
  · have hx : x ≤ 0 := by
      rcases Int.lt_or_le 0 x with hx | hx
      · have := Int.mul_pos hx hu; omega
      · exact hx
    have hq : 0 ≤ Q * u := Int.mul_nonneg hQ (by omega)
    have e1 : ab u = u := by unfold ab; rw [if_neg (by omega)]
    rw [e1]
    unfold ab
    repeat' split
    all_goals omega
  · have hx : 0 ≤ x := by
      rcases Int.lt_or_le x 0 with hx | hx
      · have := Int.mul_pos_of_neg_of_neg hx hu; omega
      · exact hx
    have hq : 0 ≤ Q * -u := Int.mul_nonneg hQ (by omega)
    have e1 : ab u = -u := by unfold ab; rw [if_pos hu]
    rw [e1]
    rw [Int.mul_neg] at hq ⊢
    unfold ab
    repeat' split
    all_goals omega

theorem sub_sign {x u Q : Int} (hQ : 0 ≤ Q) (h : x * u ≤ 0) : u * (x - Q * u) ≤ 0 := by
  have : 0 ≤ Q * (u * u) := Int.mul_nonneg hQ (by
    rcases Int.le_total 0 u with hu | hu
    · exact Int.mul_nonneg hu hu
    · exact Int.mul_nonneg_of_nonpos_of_nonpos hu hu)
  have e : u * (x - Q * u) = x * u - Q * (u * u) := by rw [Int.mul_sub, Int.mul_comm u x, Int.mul_left_comm u Q u]
  omega

theorem bez_bound {x u g h Q R B : Int} (hQ : 0 ≤ Q) (hs : x * u ≤ 0) (hg : g = Q * h + R) (hb : ab x * h + ab u * g ≤ B) : ab u * R + ab (x - Q * u) * h ≤ B := by
  rw [ab_sub hQ hs, Int.add_mul]
  have e : ab u * R = ab u * g - Q * ab u * h := by
    have : R = g - Q * h := by omega
    rw [this, Int.mul_sub]; congr 1; ac_rfl
  rw [e]
  omega

theorem Bez.step {K a b g h x u y v Q R : Int} (H : Bez K a b g h x u y v) (hg : g = Q * h + R) (hR0 : 0 ≤ R) (hR : R < h) : Bez K a b h R u (x - Q * u) v (y - Q * v) := by
  have hpos : 0 < h := by have := H.h0; omega
  have hQ : 0 ≤ Q := by
    rcases Int.lt_or_le Q 0 with hq | hq
    · have h1 : Q * h ≤ -1 * h := Int.mul_le_mul_of_nonneg_right (by omega) (by omega)
      have := H.g0
      omega
    · exact hq
  have b1 := bez_bound hQ H.sx hg H.bx
  have b2 := bez_bound hQ H.sy hg H.by'
  have le_mul : ∀ t : Int, 0 ≤ t → t ≤ t * h := fun t ht => by
    have : t * 1 ≤ t * h := Int.mul_le_mul_of_nonneg_left (by omega) ht
    omega
  refine ⟨H.eh, ?_, H.h0, hR0, sub_sign hQ H.sx, sub_sign hQ H.sy, b1, b2, ?_, ?_, H.ka, H.kb, H.ku, ?_, H.kv, ?_, H.kh, by have := H.kh; omega⟩
  · have e1 := H.eg
    have e2 := H.eh
    have e3 : R = g - Q * h := by omega
    rw [e3, Int.sub_mul, Int.sub_mul]
    have e4 : Q * h = Q * u * a + Q * v * b := by rw [e2, Int.mul_add, Int.mul_assoc, Int.mul_assoc]
    omega
  · obtain ⟨p, q, e⟩ := H.spa
    refine ⟨p * Q + q, p, ?_⟩
    rw [e, hg, Int.mul_add, Int.add_mul, Int.mul_assoc]
    omega
  · obtain ⟨p, q, e⟩ := H.spb
    refine ⟨p * Q + q, p, ?_⟩
    rw [e, hg, Int.mul_add, Int.add_mul, Int.mul_assoc]
    omega
  · have h1 := le_mul _ (ab_nonneg (x - Q * u))
    have h2 : 0 ≤ ab u * R := Int.mul_nonneg (ab_nonneg u) hR0
    have := H.kb
    omega
  · have h1 := le_mul _ (ab_nonneg (y - Q * v))
    have h2 : 0 ≤ ab v * R := Int.mul_nonneg (ab_nonneg v) hR0
    have := H.ka
    omega

theorem NumL.tight {w : World} {v : Value} {z : Int} {n m : Nat} (h : NumL w v z n) (hz : ab z < bp m) : NumL w v z m := by
  obtain ⟨neg, s, zs, e, hl, hn, h0, hzz, -⟩ := h
  refine ⟨neg, s, zs, e, hl, hn, h0, hzz, ?_⟩
  have hlb : LB zs := by obtain ⟨_, _, _, _, _, h, _⟩ := hl; exact h
  have hp := lv_nonneg hlb
  refine length_le_of_lt hlb hn ?_
  rw [hzz] at hz
  unfold ab at hz
  split at hz <;> split at hz <;> omega

theorem NumL.ab_lt {w : World} {v : Value} {z : Int} {n : Nat} (h : NumL w v z n) : ab z < bp n := by
  obtain ⟨neg, s, zs, e, hl, hn, h0, hzz, hle⟩ := h
  have hlb : LB zs := by obtain ⟨_, _, _, _, _, h, _⟩ := hl; exact h
  have hp := lv_nonneg hlb
  have h1 := lv_lt hlb
  have h2 : bp zs.length ≤ bp n := bp_mono hle
  rw [hzz]
  unfold ab
  repeat' split
  all_goals omega

theorem Lim.unique {w : World} {v : Value} {xs ys : List Int} (hx : Lim w v xs) (hy : Lim w v ys) : xs = ys := by
  obtain ⟨ao, cap, rfl, -, -, -, hc⟩ := hx
  obtain ⟨bo, cap', e, -, -, -, hd⟩ := hy
  simp only [Value.slice.injEq] at e
  obtain ⟨rfl, hl, rfl⟩ := e
  refine List.ext_getElem hl fun i h1 h2 => ?_
  obtain ⟨b, off, e1, -, hc⟩ := hc (by omega)
  obtain ⟨b', off', e2, -, hd⟩ := hd (by omega)
  rw [e1] at e2
  simp only [Option.some.injEq, Addr.mk.injEq, and_true] at e2
  obtain ⟨rfl, rfl⟩ := e2
  have h3 := (hc i h1).symm.trans (hd i h2)
  simpa [List.getD_eq_getElem?_getD, h1, h2] using h3

theorem NumL.unique {w : World} {v : Value} {z z' : Int} {n n' : Nat} (h : NumL w v z n) (h' : NumL w v z' n') : z = z' := by
  obtain ⟨neg, s, zs, rfl, hl, -, -, hz, -⟩ := h
  obtain ⟨neg', s', zs', e, hl', -, -, hz', -⟩ := h'
  simp only [Value.agg.injEq, Array.mk.injEq, List.cons.injEq, Value.bool.injEq, and_true] at e
  obtain ⟨rfl, rfl⟩ := e
  rw [hz, hz', hl.unique hl']

/-- the number that lies in a variable -/
noncomputable def numAt (W : World) (B : Nat) : Int := Classical.epsilon fun z => ∃ v0 v1 n, Box W B v0 v1 ∧ NumL W (.agg #[v0, v1]) z n

theorem numAt_eq {W : World} {B : Nat} {v0 v1 : Value} {z : Int} {n : Nat} (hb : Box W B v0 v1) (hn : NumL W (.agg #[v0, v1]) z n) : numAt W B = z := by
  obtain ⟨u0, u1, m, hb', hn'⟩ := Classical.epsilon_spec (p := fun z => ∃ v0 v1 n, Box W B v0 v1 ∧ NumL W (.agg #[v0, v1]) z n) ⟨z, v0, v1, n, hb, hn⟩
  have e0 : u0 = v0 := Option.some.inj (hb'.1.symm.trans hb.1)
  have e1 : u1 = v1 := Option.some.inj (hb'.2.1.symm.trans hb.2.1)
  rw [e0, e1] at hn'
  exact hn'.unique hn

set_option maxRecDepth 100000 in
set_option maxHeartbeats 800000 in
theorem sign_any (w : World) (va : Value) (x : Int) (n : Nat) (ha : NumL w va x n) :
    Calls Tryz.prog 148 #[va] w fun e w' => e = .returned (.int .i64 (sgn x)) ∧ Below w.heap.size w w' := by
  have HA := hide ha
  have hsg : ∀ neg s, va = .agg #[.bool neg, s] → (neg = true → x < 0) ∧ (neg = false → 0 ≤ x) := fun neg s e => by
    obtain ⟨neg', s', zs, e', hl, hn, h0, hz, -⟩ := ha
    rw [e] at e'
    simp only [Value.agg.injEq, Array.mk.injEq, List.cons.injEq, Value.bool.injEq, and_true] at e'
    obtain ⟨rfl, rfl⟩ := e'
    have hlb : LB zs := by obtain ⟨_, _, _, _, _, h, _⟩ := hl; exact h
    have hp := lv_nonneg hlb
    have hz0 := lv_zero_iff hlb hn
    constructor
    · intro e; subst e
      have h1 : zs.length ≠ 0 := fun h => by simpa using h0 h
      have h2 : lv zs ≠ 0 := fun h => h1 (hz0.1 h)
      simp at hz; omega
    · intro e; subst e; simp at hz; omega
  obtain ⟨an, sa, a, rfl, hla, -⟩ := ha
  obtain ⟨h1, h2⟩ := hsg an sa rfl
  clear hsg
  obtain ⟨ao, acap, rfl, -⟩ := hla
  by_cases hx : x = 0
  · have hz := hide (decide_eq_true hx)
    have e : sgn x = 0 := by unfold sgn; rw [if_pos hx]
    rw [e]
    go_enter Tryz.func148, Tryz.ntmps148
    go_wp2_with fail
    have hB : Below w.heap.size w (w.alloc (.cells #[.bool an, .slice ao a.length acap] 43)) := (Below.refl _ _).alloc (Nat.le_refl _) _
    refine (zero_any _ _ x n (HA.out.below hB (Nat.le_refl _))).mono ?_
    rintro e w1 ⟨rfl, hb1⟩
    rw [hz.out]
    have HF := hide (hB.trans (hb1.mono hB.size))
    clear hb1 hB
    go_wp2
    go_ret
    exact ⟨rfl, HF.out⟩
  · have hz := hide (decide_eq_false hx)
    cases an
    · have e : sgn x = 1 := by unfold sgn; rw [if_neg hx, if_neg (by have := h2 rfl; omega)]
      rw [e]
      go_enter Tryz.func148, Tryz.ntmps148
      go_wp2_with fail
      have hB : Below w.heap.size w (w.alloc (.cells #[.bool false, .slice ao a.length acap] 43)) := (Below.refl _ _).alloc (Nat.le_refl _) _
      have hbx := box_new w (.bool false) (.slice ao a.length acap) 43 _ rfl
      refine (zero_any _ _ x n (HA.out.below hB (Nat.le_refl _))).mono ?_
      rintro e w1 ⟨rfl, hb1⟩
      rw [hz.out]
      obtain ⟨c0, c1, -, -⟩ := hbx.later hb1 (by simp)
      have HF := hide (hB.trans (hb1.mono hB.size))
      clear hb1 hB hbx
      go_wp2
      go_ret
      exact ⟨rfl, HF.out⟩
    · have e : sgn x = -1 := by unfold sgn; rw [if_neg hx, if_pos (h1 rfl)]
      rw [e]
      go_enter Tryz.func148, Tryz.ntmps148
      go_wp2_with fail
      have hB : Below w.heap.size w (w.alloc (.cells #[.bool true, .slice ao a.length acap] 43)) := (Below.refl _ _).alloc (Nat.le_refl _) _
      have hbx := box_new w (.bool true) (.slice ao a.length acap) 43 _ rfl
      refine (zero_any _ _ x n (HA.out.below hB (Nat.le_refl _))).mono ?_
      rintro e w1 ⟨rfl, hb1⟩
      rw [hz.out]
      obtain ⟨c0, c1, -, -⟩ := hbx.later hb1 (by simp)
      have HF := hide (hB.trans (hb1.mono hB.size))
      clear hb1 hB hbx
      go_wp2
      go_ret
      exact ⟨rfl, HF.out⟩

end Go.Proofs.YtjblidoilphifadGreatDoor

/- Moves of a region that draws its order, for operations whose guard says no. -/
namespace Go.Proofs.YtjblidoilphifadGreatDoor
open Go

variable {P : Program} {ops : Array Oper} {Q : Exit → Act → World → Prop} {md : Region.Mode} {S : World → Prop}

/-- An operation that yields in every world that meets S. -/
theorem held_run (i d : Nat) {oi : Oper} {v : Value} {fuel : Nat} {listed : Array Bool} {a : Act} {w : World} (hi : ops[i]? = some oi) (hd : oi.dst = some d)
    (hs : Region.noSelect ops = true) (hf : Region.free md ops listed i = true) (hr : (Region.ready md ops listed).contains i = true)
    (hQ : ∀ c a w, Q (.panic c) (a.put (some d) v) w → Q (.panic c) a w) (hw : Region.wanted oi (yielded ops a.tmps) = true) (hy : ∀ w, S w → (execOp a.eval oi).run P w = .ok (.value v) w) (hS : S w)
    (h : wpAnyH P md ops Q S fuel (listed.setIfInBounds i true) (a.put (some d) v) w) : wpAnyH P md ops Q S (fuel + 1) listed a w :=
  wpAnyH_take hi hs hf hr (by rw [hd]; exact hQ) (.inl ⟨hw, hy⟩) hS (by rw [hd]; exact h)

/-- One whose guard says no. -/
theorem held_skip (i d : Nat) {oi : Oper} {fuel : Nat} {listed : Array Bool} {a : Act} {w : World} (hi : ops[i]? = some oi) (hd : oi.dst = some d)
    (hs : Region.noSelect ops = true) (hf : Region.free md ops listed i = true) (hr : (Region.ready md ops listed).contains i = true)
    (hQ : ∀ c a w, Q (.panic c) (a.put (some d) undef) w → Q (.panic c) a w) (hw : Region.wanted oi (yielded ops a.tmps) = false) (hS : S w)
    (h : wpAnyH P md ops Q S fuel (listed.setIfInBounds i true) (a.put (some d) undef) w) : wpAnyH P md ops Q S (fuel + 1) listed a w :=
  wpAnyH_take hi hs hf hr (by rw [hd]; exact hQ) (.inr ⟨hw, rfl⟩) hS (by rw [hd]; exact h)

end Go.Proofs.YtjblidoilphifadGreatDoor
