/- Numbers divided, walked. -/
import Derived.Test.YtdedolkgcdlmeaaGreatDoorDiv
namespace Go.Proofs.YtdedolkgcdlmeaaGreatDoor
open Go.RowKit Limbs

set_option maxRecDepth 100000 in
set_option maxHeartbeats 3200000 in
theorem div_any (w : World) (va vb : Value) (x y : Int) (n m : Nat) (ha : NumL w va x n) (hb : NumL w vb y m) (hy : y ≠ 0) (hn : n ≤ 800000) :
    Calls Tryz.prog 98 #[va, vb] w fun e w' => QuoPost w x y n m e w' := by
  have HB := hide hb
  obtain ⟨an, sa, a, rfl, hla, nra, -, hx, hna⟩ := ha
  obtain ⟨bn, sb, b, rfl, hlb, nrb, -, hyy, hnb⟩ := hb
  have HLA := hide hla
  have HLB := hide hlb
  obtain ⟨ao, acap, rfl, -, -, halb, -⟩ := hla
  obtain ⟨bo, bcap, rfl, -, -, hblb, -⟩ := hlb
  have hb0 : b.length ≠ 0 := fun h => hy (by rw [hyy, List.eq_nil_of_length_eq_zero h]; simp [lv])
  change x = sg an (lv a) at hx
  change y = sg bn (lv b) at hyy
  have HX := hide hx; have HY := hide hyy
  clear hx hyy
  go_enter Tryz.func98, Tryz.ntmps98
  go_wp2_with fail
  have hT := four w (.bool an) (.slice ao a.length acap) (.bool bn) (.slice bo b.length bcap) (.bool false) (.slice none 0 0) (.bool false) (.slice none 0 0) 29 29 29 29
  generalize (((w.alloc (.cells #[.bool an, .slice ao a.length acap] 29)).alloc (.cells #[.bool bn, .slice bo b.length bcap] 29)).alloc (.cells #[.bool false, .slice none 0 0] 29)).alloc (.cells #[.bool false, .slice none 0 0] 29) = W at *
  refine (zero_any W _ y m (HB.out.below hT.below (Nat.le_refl _))).mono ?_
  rintro e w1 ⟨rfl, hb1⟩
  rw [decide_eq_false hy]
  have hT1 := hT.later hb1
  obtain ⟨p0, p1, -, -⟩ := hT1.fst
  obtain ⟨q0, q1, -, -⟩ := hT1.snd
  go_wp2_with fail
  refine (divLimbs_any w1 _ _ a b (HLA.out.below hT1.below (Nat.le_refl _)) (HLB.out.below hT1.below (Nat.le_refl _)) nra nrb hb0 (by omega)).mono ?_
  rintro e w2 ⟨v1, v2, qs, rs, rfl, hl1, hl2, hnq, hnr, hval, hlt, hql, hrl, hb2⟩
  have HV := hide hval
  have HLT := hide hlt
  have HL1 := hide hl1
  have HL2 := hide hl2
  have hT2 := hT1.later hb2
  clear p0 p1 q0 q1 hval hlt hT hT1 hb1
  obtain ⟨ro, rcap, rfl, -, -, hrlb, -⟩ := hl2
  have hr0 := lv_nonneg hrlb
  have hrz := lv_zero_iff hrlb hnr
  clear hl1
  obtain ⟨p0, p1, -, -⟩ := hT2.fst
  obtain ⟨q0, q1, -, -⟩ := hT2.snd
  by_cases hpl : an = bn ∨ lv rs = 0
  · have hfact := quo_plain an bn HV.out hr0 HLT.out hpl
    rw [← HX.out, ← HY.out] at hfact
    rcases (show (an == bn) = true ∨ ((an == bn) = false ∧ rs.length = 0) by
      by_cases h : an = bn
      · exact .inl (by simp [h])
      · exact .inr ⟨by simpa using h, hrz.1 (hpl.resolve_left h)⟩) with hab | ⟨hab, hr0'⟩
    · clear hpl
      rw [hab] at hfact
      have HFA := hide hfact
      clear hfact
      obtain ⟨p0, p1, -, -⟩ := hT2.fst
      obtain ⟨q0, q1, -, -⟩ := hT2.snd
      have tok1 : True := trivial
      have tok2 : True := trivial
      have hn2 : ¬ (w.heap.size + 1 + 1 = w.heap.size) := by omega
      have hn3 : ¬ (w.heap.size = w.heap.size + 1 + 1) := by omega
      have hn4 : ¬ (w.heap.size + 3 = w.heap.size) := by omega
      have hn5 : ¬ (w.heap.size = w.heap.size + 3) := by omega
      have hn6 : ¬ (w.heap.size + 2 = w.heap.size) := by omega
      have hn7 : ¬ (w.heap.size = w.heap.size + 2) := by omega
      go_wp2_with fail
      go_region_held3 (fun w' => w'.cell? ⟨w.heap.size, 0, none⟩ = some (.bool an) ∧ w'.cell? ⟨w.heap.size + 1, 0, none⟩ = some (.bool bn)) (go_keep)
        (first
          | (go_at_call 95; have _t := tok1; refine (signed_any _ _ _ qs (n + 1) (by exact HL1.out) (by omega)).mono ?_; rintro e w8 ⟨r8, rfl, hr8, hb8⟩; have hT8 := hT2.drew.later hb8; obtain ⟨p0', p1', -, -⟩ := hT8.fst; obtain ⟨q0', q1', -, -⟩ := hT8.snd; have HR8 := hide hr8; obtain ⟨rn8, rs8, rz8, rfl, hl8, -⟩ := hr8; obtain ⟨ro8, rcap8, rfl, -⟩ := hl8; clear tok1)
          | (go_at_call 95; have _t := tok2; refine (signed_any _ _ _ rs m ((show Lim _ _ rs from by exact HL2.out).below (drewed hb8) (Nat.le_refl _)) (by omega)).mono ?_; rintro e w9 ⟨r9, rfl, hr9, hb9⟩; have hT9 := hT8.later hb9; obtain ⟨p0'', p1'', -, -⟩ := hT9.fst; obtain ⟨q0'', q1'', -, -⟩ := hT9.snd; obtain ⟨c0, c1, f0, f1⟩ := hT9.res; obtain ⟨d0, d1, g0, g1⟩ := hT9.sec; have HR9 := hide hr9; obtain ⟨rn9, rs9, rz9, rfl, hl9, -⟩ := hr9; obtain ⟨ro9, rcap9, rfl, -⟩ := hl9; have HR8' := hide (HR8.out.below hb9 (Nat.le_refl _)); clear tok2))
      have HF := hide (boxed2 (w := w) HR8'.out HR9.out c0 c1 d0 d1 (by omega) (by simp) (by simp) (by simp) (by simp) hT9.below (by omega) (by omega))
      have HA := hide (HFA.out)
      clear hT8 hT9 hb8 hb9 HR8 HR9 HR8' hT2
      go_wp2
      exact bodyPost_ret (v := .tuple #[.agg #[.bool rn8, .slice ro8 rz8.length rcap8], .agg #[.bool rn9, .slice ro9 rz9.length rcap9], .nilIface]) (by simp [results, Tryz.results98, go_sem, c0, c1, d0, d1]) rfl ⟨_, _, _, _, rfl, HF.out.1, HF.out.2.1, HA.out.1, HA.out.2, HF.out.2.2⟩
    · obtain rfl : rs = [] := List.eq_nil_of_length_eq_zero hr0'
      rw [hab] at hfact
      have HFA := hide hfact
      clear hfact hpl hr0' hrz
      obtain ⟨p0, p1, -, -⟩ := hT2.fst
      obtain ⟨q0, q1, -, -⟩ := hT2.snd
      have tok1 : True := trivial
      have tok2 : True := trivial
      have hn2 : ¬ (w.heap.size + 1 + 1 = w.heap.size) := by omega
      have hn3 : ¬ (w.heap.size = w.heap.size + 1 + 1) := by omega
      have hn4 : ¬ (w.heap.size + 3 = w.heap.size) := by omega
      have hn5 : ¬ (w.heap.size = w.heap.size + 3) := by omega
      have hn6 : ¬ (w.heap.size + 2 = w.heap.size) := by omega
      have hn7 : ¬ (w.heap.size = w.heap.size + 2) := by omega
      go_wp2_with fail
      go_region_held3 (fun w' => w'.cell? ⟨w.heap.size, 0, none⟩ = some (.bool an) ∧ w'.cell? ⟨w.heap.size + 1, 0, none⟩ = some (.bool bn)) (go_keep)
        (first
          | (go_at_call 95; have _t := tok1; refine (signed_any _ _ _ qs (n + 1) (by exact HL1.out) (by omega)).mono ?_; rintro e w8 ⟨r8, rfl, hr8, hb8⟩; have hT8 := hT2.drew.later hb8; obtain ⟨p0', p1', -, -⟩ := hT8.fst; obtain ⟨q0', q1', -, -⟩ := hT8.snd; have HR8 := hide hr8; obtain ⟨rn8, rs8, rz8, rfl, hl8, -⟩ := hr8; obtain ⟨ro8, rcap8, rfl, -⟩ := hl8; clear tok1)
          | (go_at_call 95; have _t := tok2; refine (signed_any _ _ _ [] m ((show Lim _ _ [] from by exact HL2.out).below (drewed hb8) (Nat.le_refl _)) (by simp)).mono ?_; rintro e w9 ⟨r9, rfl, hr9, hb9⟩; have hT9 := hT8.later hb9; obtain ⟨p0'', p1'', -, -⟩ := hT9.fst; obtain ⟨q0'', q1'', -, -⟩ := hT9.snd; obtain ⟨c0, c1, f0, f1⟩ := hT9.res; obtain ⟨d0, d1, g0, g1⟩ := hT9.sec; have HR9 := hide hr9; obtain ⟨rn9, rs9, rz9, rfl, hl9, -⟩ := hr9; obtain ⟨ro9, rcap9, rfl, -⟩ := hl9; have HR8' := hide (HR8.out.below hb9 (Nat.le_refl _)); clear tok2))
      have HF := hide (boxed2 (w := w) HR8'.out HR9.out c0 c1 d0 d1 (by omega) (by simp) (by simp) (by simp) (by simp) hT9.below (by omega) (by omega))
      have HA := hide (HFA.out)
      clear hT8 hT9 hb8 hb9 HR8 HR9 HR8' hT2
      go_wp2
      exact bodyPost_ret (v := .tuple #[.agg #[.bool rn8, .slice ro8 rz8.length rcap8], .agg #[.bool rn9, .slice ro9 rz9.length rcap9], .nilIface]) (by simp [results, Tryz.results98, go_sem, c0, c1, d0, d1]) rfl ⟨_, _, _, _, rfl, HF.out.1, HF.out.2.1, HA.out.1, HA.out.2, HF.out.2.2⟩
  · have hab : (an == bn) = false := by
      by_cases h : an = bn
      · exact absurd (.inl h) hpl
      · simpa using h
    have hrp : 0 < lv rs := by
      have : ¬ lv rs = 0 := fun h => hpl (.inr h)
      omega
    have hrl0 : 0 < rs.length := by
      have : rs.length ≠ 0 := fun h => by have := hrz.2 h; omega
      omega
    have hfact := quo_down an bn HV.out hrp HLT.out hab
    rw [← HX.out, ← HY.out, hab] at hfact
    have HFA := hide hfact
    have hRP := hide hrp
    clear hfact hpl hrp hrz
    go_wp2_with fail
    have hone := row_one w2 1 (by decide)
    have hba := (Below.refl w2.heap.size w2).alloc (Nat.le_refl _) (.cells #[.int .u32 1] 104)
    refine (addLimbs_any _ _ _ qs [1] (HL1.out.below hba (Nat.le_refl _)) (hone.lim 1 (by simp) (by simp)) (by omega) (by simp)).mono ?_
    rintro e w3 ⟨v3, xs, rfl, hl3, hv3, hn3, hb3⟩
    have hT3 := (hT2.later hba).later hb3
    obtain ⟨p0, p1, -, -⟩ := hT3.fst
    obtain ⟨q0, q1, -, -⟩ := hT3.snd
    have HL3 := hide hl3
    have HV3 := hide hv3
    clear hl3 hv3 hone
    go_wp2_with fail
    refine (subLimbs_any w3 _ _ b rs (HLB.out.below hT3.below (Nat.le_refl _)) (HL2.out.below (hba.trans (hb3.mono hba.size)) (Nat.le_refl _)) hnr (by have := HLT.out; omega)).mono ?_
    rintro e w4 ⟨v4, ys, rfl, hl4, hv4, hn4, hb4⟩
    have hT4 := hT3.later hb4
    have HL4 := hide hl4
    have HV4 := hide hv4
    have HL3' := hide (HL3.out.below hb4 (Nat.le_refl _))
    clear hl4 hv4 p0 p1 q0 q1 hT3 HL3 hb4 hb3 hba
    rw [show lv qs + 1 = lv xs by have := HV3.out; simpa [lv] using this.symm, show lv b - lv rs = lv ys from HV4.out.symm] at HFA
    have ha1 : 1 ≤ a.length := by
      rcases Nat.lt_or_ge a.length 1 with h | h
      · exfalso
        have e0 : lv a = 0 := by have h' : a = [] := List.eq_nil_of_length_eq_zero (by omega); rw [h']; rfl
        have e1 := HV.out
        have e2 := hRP.out
        have e3 := lv_nonneg hblb
        have e4 : LB qs := by obtain ⟨_, _, _, _, _, h, _⟩ := HL1.out; exact h
        have e5 := Int.mul_nonneg e3 (lv_nonneg e4)
        omega
      · exact h
    have hxl : xs.length ≤ n + 1 := by simp at hn3; omega
    obtain ⟨p0, p1, -, -⟩ := hT4.fst
    obtain ⟨q0, q1, -, -⟩ := hT4.snd
    have tok1 : True := trivial
    have tok2 : True := trivial
    have hn2 : ¬ (w.heap.size + 1 + 1 = w.heap.size) := by omega
    have hn3 : ¬ (w.heap.size = w.heap.size + 1 + 1) := by omega
    have hn4 : ¬ (w.heap.size + 3 = w.heap.size) := by omega
    have hn5 : ¬ (w.heap.size = w.heap.size + 3) := by omega
    have hn6 : ¬ (w.heap.size + 2 = w.heap.size) := by omega
    have hn7 : ¬ (w.heap.size = w.heap.size + 2) := by omega
    go_wp2_with fail
    go_region_held3 (fun w' => w'.cell? ⟨w.heap.size, 0, none⟩ = some (.bool an) ∧ w'.cell? ⟨w.heap.size + 1, 0, none⟩ = some (.bool bn)) (go_keep)
      (first
        | (go_at_call 95; have _t := tok1; refine (signed_any _ _ _ xs (n + 1) (by exact HL3'.out) hxl).mono ?_; rintro e w8 ⟨r8, rfl, hr8, hb8⟩; have hT8 := hT4.drew.later hb8; obtain ⟨p0', p1', -, -⟩ := hT8.fst; obtain ⟨q0', q1', -, -⟩ := hT8.snd; have HR8 := hide hr8; obtain ⟨rn8, rs8, rz8, rfl, hl8, -⟩ := hr8; obtain ⟨ro8, rcap8, rfl, -⟩ := hl8; clear tok1)
        | (go_at_call 95; have _t := tok2; refine (signed_any _ _ _ ys m ((show Lim _ _ ys from by exact HL4.out).below (drewed hb8) (Nat.le_refl _)) (by omega)).mono ?_; rintro e w9 ⟨r9, rfl, hr9, hb9⟩; have hT9 := hT8.later hb9; obtain ⟨p0'', p1'', -, -⟩ := hT9.fst; obtain ⟨q0'', q1'', -, -⟩ := hT9.snd; obtain ⟨c0, c1, f0, f1⟩ := hT9.res; obtain ⟨d0, d1, g0, g1⟩ := hT9.sec; have HR9 := hide hr9; obtain ⟨rn9, rs9, rz9, rfl, hl9, -⟩ := hr9; obtain ⟨ro9, rcap9, rfl, -⟩ := hl9; have HR8' := hide (HR8.out.below hb9 (Nat.le_refl _)); clear tok2))
    have HF := hide (boxed2 (w := w) HR8'.out HR9.out c0 c1 d0 d1 (by omega) (by simp) (by simp) (by simp) (by simp) hT9.below (by omega) (by omega))
    have HA := hide (HFA.out)
    clear hT8 hT9 hb8 hb9 HR8 HR9 HR8' hT2
    go_wp2
    exact bodyPost_ret (v := .tuple #[.agg #[.bool rn8, .slice ro8 rz8.length rcap8], .agg #[.bool rn9, .slice ro9 rz9.length rcap9], .nilIface]) (by simp [results, Tryz.results98, go_sem, c0, c1, d0, d1]) rfl ⟨_, _, _, _, rfl, HF.out.1, HF.out.2.1, HA.out.1, HA.out.2, HF.out.2.2⟩

end Go.Proofs.YtdedolkgcdlmeaaGreatDoor
