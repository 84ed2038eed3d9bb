/- The reference: reading an expression: one case. -/
import Derived.Test.YtanjajjjancggaaDoorRxI

namespace Go.Proofs.YtanjajjjancggaaDoor
open Go.RowKit

set_option linter.unusedSimpArgs false in
set_option linter.unusedVariables false in
set_option maxRecDepth 100000 in
set_option maxHeartbeats 40000000 in
theorem readExpr_two (D dp : Nat) (w : World) (l : List UInt8) (hd : dp + (D + 1) = 7) (hl : l.length ≤ 1000000) (H : ∀ (W : World) (m : List UInt8), m.length ≤ 1000000 → Calls Tryd.prog 23 #[strV m, .int .i64 ((dp + 1 : Nat) : Int)] W fun e w' => RrP (readR D) m W e w') (hp1 : Lib.hasPrefix l [40] = true) : Calls Tryd.prog 23 #[strV l, .int .i64 (dp : Int)] w fun e w' => RrP (readR (D + 1)) l w e w' := by
 have HREC := hide H
 clear H
 have HX := hide (ExB.new w 0 0 ⟨#[]⟩ (.slice none 0 0)); have HB1 := hide (alloc_below w (.cells #[.int .i64 0, .int .i64 0, .string ⟨#[]⟩, .slice none 0 0] 24))
 obtain ⟨W1, hW1⟩ : ∃ W1, w.alloc (.cells #[.int .i64 0, .int .i64 0, .string ⟨#[]⟩, .slice none 0 0] 24) = W1 := ⟨_, rfl⟩
 have hsz1 : W1.heap.size = w.heap.size + 1 := by rw [← hW1]; simp
 rw [hW1] at HX HB1
 have g0 : decide ((6 : Int) < (dp : Int)) = false := decide_eq_false (by omega)
 have wd : IntKind.i64.wrap ((dp : Int) + 1) = ((dp + 1 : Nat) : Int) := by rw [IntKind.wrap_i64]; omega
 have HC1 := hide (begins_any l [40] W1); have HC2 := hide (begins_any l fillP W1); have HC3 := hide (begins_any l wholeP W1)
 go_enter Tryd.func23, Tryd.ntmps23
 go_wp2_with fail
 refine HC1.out.mono ?_
 rintro e w2 ⟨rfl, hw2⟩
 subst hw2
 clear HC1
 rw [hp1]
 obtain ⟨ht, hle⟩ := trim_drop hp1
 have h1 : 1 ≤ l.length := hle
 have HP1 := hide hp1
 have HT : Hid (Lib.trimPrefix l [40] = l.drop 1) := ht
 have htl : (l.drop 1).length ≤ 1000000 := by rw [List.length_drop]; omega
 have k1 : (1 : Int) ≤ (l.length : Int) := by omega
 clear hp1 ht hle HC2 HC3
 go_wp2_with fail
 rw [extract_from]
 refine (HREC.out w2 _ htl).mono ?_
 rintro e w3 ⟨hb3, hres⟩
 rcases hres with ⟨hn, rfl⟩ | ⟨x, cs, n, dd, rfl, hx, hnl, hrd⟩
 ·have hb4 := hb3.trans ((alloc_below w3 (.cells #[.int .i64 0, .int .i64 0, .string ⟨#[]⟩, .slice none 0 0] 24)).mono hb3.size)
  have HX4 := hide (HX.out.later hb4); have HB4 := hide (HB1.out.trans (hb4.mono HB1.out.size)); have HN := hide hn
  clear hb3 hb4 hn g0
  have HFIN : Hid (RrP (readR (D + 1)) l w (.returned (.tuple #[.agg #[.int .i64 0, .int .i64 0, .string ⟨#[]⟩, .slice none 0 0], .int .i64 (-1)])) (put4 (w3.alloc (.cells #[.int .i64 0, .int .i64 0, .string ⟨#[]⟩, .slice none 0 0] 24)) w.heap.size 0 0 ⟨#[]⟩ (.slice none 0 0))) :=
   ⟨put4_below (HB4.out) (Nat.le_refl _) _ _ _ _, .inl ⟨(by rw [readR_two HP1.out, HT.out]; unfold twoR; rw [HN.out]), rfl⟩⟩
  obtain ⟨c0, c1, c2, c3, hf⟩ := (HX4.out).cells
  have f0 := hf 0; have f1 := hf 1; have f2 := hf 2; have f3 := hf 3
  obtain ⟨g0, g1, g2, g3, -⟩ := (ExB.put (HX4.out) 0 0 ⟨#[]⟩ (.slice none 0 0)).cells
  clear hf
  go_wp2
  exact bodyPost_ret (v := .tuple #[.agg #[.int .i64 0, .int .i64 0, .string ⟨#[]⟩, .slice none 0 0], .int .i64 (-1)]) (by simp [results, Tryd.results23, go_sem, g0, g1, g2, g3]) rfl HFIN.out
 ·obtain ⟨ka, na, sa, oa, ma, cap, rfl⟩ := hx.agg
  have hb34 := alloc_below w3 (.cells #[.int .i64 ka, .int .i64 na, .string sa, .slice oa ma cap] 24)
  have HY4 := hide (ExB.new w3 ka na sa (.slice oa ma cap))
  have HF4 := hide (hx.later (base' := w.heap.size + 1) (by omega) hb34)
  have hb4 := hb3.trans (hb34.mono hb3.size)
  obtain ⟨W4, hW4⟩ : ∃ W4, w3.alloc (.cells #[.int .i64 ka, .int .i64 na, .string sa, .slice oa ma cap] 24) = W4 := ⟨_, rfl⟩
  rw [hW4] at hb34 HY4 HF4 hb4
  have HX4 := hide (HX.out.later hb4); have HB4 := hide (HB1.out.trans (hb4.mono HB1.out.size))
  have hsz4 : w.heap.size + 1 ≤ W4.heap.size := by have := hb4.size; omega
  have hnl' := hnl
  rw [List.length_drop] at hnl'
  have HRD : Hid (readR D (l.drop 1) = some (x, l.drop (n + 1))) := by
   show _ = _
   rw [hrd, List.drop_drop, Nat.add_comm]
  have g1 : decide ((n : Int) < 0) = false := decide_eq_false (by omega)
  have wn : IntKind.i64.wrap ((n : Int) + 1) = ((n + 1 : Nat) : Int) := by rw [IntKind.wrap_i64]; omega
  obtain ⟨m, hm⟩ : ∃ m, n + 1 = m := ⟨_, rfl⟩
  rw [hm] at wn HRD
  have km0 : (0 : Int) ≤ (m : Int) := by omega
  have km1 : (m : Int) ≤ (l.length : Int) := by omega
  have HBA := hide (begins_any (l.drop m) [32, 38, 32] W4); have HBP := hide (begins_any (l.drop m) [32, 43, 32] W4)
  clear hb3 hb34 hb4 hx hnl hrd HX HB1 g0
  go_wp2_with fail
  rw [extract_from]
  refine HBA.out.mono ?_
  rintro e w5 ⟨rfl, hw5⟩
  subst hw5
  cases hsa : Lib.hasPrefix (l.drop m) [32, 38, 32] with
  | true =>
   have HS1 : Hid (Lib.hasPrefix (l.drop m) (spacedB true) = true) := hsa
   clear hsa HBA HBP
   obtain ⟨ht3, hle3⟩ := trim_drop HS1.out
   have HT3 : Hid (Lib.trimPrefix (l.drop m) (spacedB true) = l.drop (m + 3)) := by
    show _ = _
    rw [ht3, List.drop_drop]
    rfl
   have hle3' : 3 ≤ (l.drop m).length := hle3
   rw [List.length_drop] at hle3'
   clear ht3 hle3
   have w3 : IntKind.i64.wrap ((m : Int) + 3) = ((m + 3 : Nat) : Int) := by rw [IntKind.wrap_i64]; omega
   have k30 : (0 : Int) ≤ ((m + 3 : Nat) : Int) := by omega
   have k31 : ((m + 3 : Nat) : Int) ≤ (l.length : Int) := by omega
   have htl3 : (l.drop (m + 3)).length ≤ 1000000 := by rw [List.length_drop]; omega
   obtain ⟨m3, hm3⟩ : ∃ m3, m + 3 = m3 := ⟨_, rfl⟩
   rw [hm3] at w3 k30 k31 htl3 HT3
   go_wp2_with fail
   rw [extract_from]
   refine (HREC.out w5 _ htl3).mono ?_
   rintro e w6 ⟨hb6, hres2⟩
   rcases hres2 with ⟨hn2, rfl⟩ | ⟨x2, cs2, n2, dd2, rfl, hx2, hnl2, hrd2⟩
   ·have hb7 := hb6.trans ((alloc_below w6 (.cells #[.int .i64 0, .int .i64 0, .string ⟨#[]⟩, .slice none 0 0] 24)).mono hb6.size)
    have HX7 := hide (HX4.out.later hb7); have HB7 := hide (HB4.out.trans (hb7.mono HB4.out.size)); have HN2 := hide hn2
    clear hb6 hb7 hn2
    have HFIN : Hid (RrP (readR (D + 1)) l w (.returned (.tuple #[.agg #[.int .i64 0, .int .i64 0, .string ⟨#[]⟩, .slice none 0 0], .int .i64 (-1)])) (put4 (w6.alloc (.cells #[.int .i64 0, .int .i64 0, .string ⟨#[]⟩, .slice none 0 0] 24)) w.heap.size 0 0 ⟨#[]⟩ (.slice none 0 0))) :=
     ⟨put4_below (HB7.out) (Nat.le_refl _) _ _ _ _, .inl ⟨(by rw [readR_two HP1.out, HT.out]; unfold twoR; rw [HRD.out]; simp only; rw [if_pos HS1.out, HT3.out]; rw [HN2.out]), rfl⟩⟩
    obtain ⟨c0, c1, c2, c3, hf⟩ := (HX7.out).cells
    have f0 := hf 0; have f1 := hf 1; have f2 := hf 2; have f3 := hf 3
    obtain ⟨g0, g1, g2, g3, -⟩ := (ExB.put (HX7.out) 0 0 ⟨#[]⟩ (.slice none 0 0)).cells
    clear hf
    go_wp2
    exact bodyPost_ret (v := .tuple #[.agg #[.int .i64 0, .int .i64 0, .string ⟨#[]⟩, .slice none 0 0], .int .i64 (-1)]) (by simp [results, Tryd.results23, go_sem, g0, g1, g2, g3]) rfl HFIN.out
   ·obtain ⟨ka2, na2, sa2, oa2, ma2, cap2, rfl⟩ := hx2.agg
    have hb67 := alloc_below w6 (.cells #[.int .i64 ka2, .int .i64 na2, .string sa2, .slice oa2 ma2 cap2] 24)
    have HY7 := hide (ExB.new w6 ka2 na2 sa2 (.slice oa2 ma2 cap2))
    have HF7 := hide (hx2.later (base' := w.heap.size + 1) (by have := HB4.out.size; omega) hb67)
    have hb47 := hb6.trans (hb67.mono hb6.size)
    obtain ⟨W7, hW7⟩ : ∃ W7, w6.alloc (.cells #[.int .i64 ka2, .int .i64 na2, .string sa2, .slice oa2 ma2 cap2] 24) = W7 := ⟨_, rfl⟩
    rw [hW7] at hb67 HY7 HF7 hb47
    have HX7 := hide (HX4.out.later hb47); have HB7 := hide (HB4.out.trans (hb47.mono HB4.out.size)); have HV7 := hide (HY4.out.later hb47); have HG7 := hide (HF4.out.later (base' := w.heap.size + 1) (by omega) hb47)
    have hsz7 : w.heap.size + 1 ≤ W7.heap.size := by have := hb47.size; omega
    have hnl2' := hnl2
    rw [List.length_drop] at hnl2'
    have HRD2 : Hid (readR D (l.drop m3) = some (x2, l.drop (m3 + n2))) := by
     show _ = _
     rw [hrd2, List.drop_drop]
    obtain ⟨q, hq⟩ : ∃ q, m3 + n2 = q := ⟨_, rfl⟩
    have g2 : decide ((n2 : Int) < 0) = false := decide_eq_false (by omega)
    have wq : IntKind.i64.wrap ((m3 : Int) + (n2 : Int)) = (q : Int) := by rw [IntKind.wrap_i64]; omega
    have kq0 : (0 : Int) ≤ (q : Int) := by omega
    have kq1 : (q : Int) ≤ (l.length : Int) := by omega
    have w4 : IntKind.i64.wrap ((m : Int) + 4) = ((m + 4 : Nat) : Int) := by rw [IntKind.wrap_i64]; omega
    have w5 : IntKind.i64.wrap (((m + 4 : Nat) : Int) + (n2 : Int)) = ((q + 1 : Nat) : Int) := by rw [IntKind.wrap_i64]; omega
    obtain ⟨m4, hm4⟩ : ∃ m4, m + 4 = m4 := ⟨_, rfl⟩
    rw [hm4] at w4 w5
    rw [hq] at HRD2
    have HB9 := hide (begins_any (l.drop q) [41] W7)
    clear hb6 hb67 hb47 hx2 hnl2 hrd2 HF4 HY4 HX4 HB4
    obtain ⟨a0, a1, a2, a3, -⟩ := HV7.out.cells
    obtain ⟨b0, b1, b2, b3, -⟩ := HY7.out.cells
    go_wp2_with fail
    rw [extract_from]
    refine HB9.out.mono ?_
    rintro e w8 ⟨rfl, hw8⟩
    subst hw8
    cases hs2 : Lib.hasPrefix (l.drop q) [41] with
    | false =>
     have HS2 := hide hs2
     clear hs2
     have HFIN : Hid (RrP (readR (D + 1)) l w (.returned (.tuple #[.agg #[.int .i64 0, .int .i64 0, .string ⟨#[]⟩, .slice none 0 0], .int .i64 (-1)])) (put4 w8 w.heap.size 0 0 ⟨#[]⟩ (.slice none 0 0))) :=
      ⟨put4_below (HB7.out) (Nat.le_refl _) _ _ _ _, .inl ⟨(by rw [readR_two HP1.out, HT.out]; unfold twoR; rw [HRD.out]; simp only; rw [if_pos HS1.out, HT3.out]; rw [HRD2.out]; simp only; rw [HS2.out]; rfl), rfl⟩⟩
     obtain ⟨c0, c1, c2, c3, hf⟩ := (HX7.out).cells
     have f0 := hf 0; have f1 := hf 1; have f2 := hf 2; have f3 := hf 3
     obtain ⟨g0, g1, g2, g3, -⟩ := (ExB.put (HX7.out) 0 0 ⟨#[]⟩ (.slice none 0 0)).cells
     clear hf
     go_wp2
     exact bodyPost_ret (v := .tuple #[.agg #[.int .i64 0, .int .i64 0, .string ⟨#[]⟩, .slice none 0 0], .int .i64 (-1)]) (by simp [results, Tryd.results23, go_sem, g0, g1, g2, g3]) rfl HFIN.out
    | true =>
     obtain ⟨ht4, hle4⟩ := trim_drop hs2
     have hle4' : 1 ≤ (l.drop q).length := hle4
     rw [List.length_drop] at hle4'
     have HS2 := hide hs2
     have HT4 : Hid (Lib.trimPrefix (l.drop q) [41] = l.drop (q + 1)) := by
      show _ = _
      rw [ht4, List.drop_drop]
      rfl
     clear hs2 ht4 hle4
     have hb9 := alloc_below w8 (.cells #[.int .i64 ka, .int .i64 na, .string sa, .slice oa ma cap, .int .i64 ka2, .int .i64 na2, .string sa2, .slice oa2 ma2 cap2] 24)
     have hh9 := heap_alloc_new w8 (.cells #[.int .i64 ka, .int .i64 na, .string sa, .slice oa ma cap, .int .i64 ka2, .int .i64 na2, .string sa2, .slice oa2 ma2 cap2] 24)
     obtain ⟨W9, hW9⟩ : ∃ W9, w8.alloc (.cells #[.int .i64 ka, .int .i64 na, .string sa, .slice oa ma cap, .int .i64 ka2, .int .i64 na2, .string sa2, .slice oa2 ma2 cap2] 24) = W9 := ⟨_, rfl⟩
     rw [hW9] at hb9 hh9
     have HX9 := hide (HX7.out.later hb9)
     have HFIN : Hid (RrP (readR (D + 1)) l w (.returned (.tuple #[.agg #[.int .i64 3, .int .i64 0, .string ⟨#[]⟩, .slice (some ⟨w8.heap.size, 0, none⟩) 2 2], .int .i64 ((q + 1 : Nat) : Int)])) (put4 W9 w.heap.size 3 0 ⟨#[]⟩ (.slice (some ⟨w8.heap.size, 0, none⟩) 2 2))) := by
      refine ⟨put4_below (HB7.out.trans (hb9.mono HB7.out.size)) (Nat.le_refl _) _ _ _ _, .inr ⟨.mk 3 0 ⟨#[]⟩ [x, x2], exC 3 0 ⟨#[]⟩ (.slice (some ⟨w8.heap.size, 0, none⟩) 2 2), q + 1, max dd dd2 + 1, rfl, ?_, by omega, ?_⟩⟩
      ·exact ExF.put (ExF.pair (t := 24) ((HG7.out.later (Nat.le_refl _) hb9).mono (Nat.le_max_left _ _)) ((HF7.out.later (Nat.le_refl _) hb9).mono (Nat.le_max_right _ _)) 3 0 ⟨#[]⟩ hsz7 hh9 rfl) (by omega) _ (by omega) _ _ _ _
      ·exact (by rw [readR_two HP1.out, HT.out]; unfold twoR; rw [HRD.out]; simp only; rw [if_pos HS1.out, HT3.out]; rw [HRD2.out]; simp only; rw [if_pos HS2.out, HT4.out]; rfl)
     obtain ⟨c0, c1, c2, c3, hf⟩ := HX9.out.cells
     have f0 := hf 0; have f1 := hf 1; have f2 := hf 2; have f3 := hf 3
     obtain ⟨g0, g1, g2', g3, -⟩ := (ExB.put HX9.out 3 0 ⟨#[]⟩ (.slice (some ⟨w8.heap.size, 0, none⟩) 2 2)).cells
     clear hf hb9 hh9
     go_wp2
     exact bodyPost_ret (v := .tuple #[.agg #[.int .i64 3, .int .i64 0, .string ⟨#[]⟩, .slice (some ⟨w8.heap.size, 0, none⟩) 2 2], .int .i64 ((q + 1 : Nat) : Int)]) (by simp [results, Tryd.results23, go_sem, g0, g1, g2', g3]) rfl HFIN.out
  | false =>
   have HS0 : Hid (Lib.hasPrefix (l.drop m) (spacedB true) = false) := hsa
   clear hsa HBA
   go_wp2_with fail
   rw [extract_from]
   refine HBP.out.mono ?_
   rintro e w5b ⟨rfl, hw5⟩
   subst hw5
   cases hsp : Lib.hasPrefix (l.drop m) [32, 43, 32] with
   | true =>
    have HS1 : Hid (Lib.hasPrefix (l.drop m) (spacedB false) = true) := hsp
    clear hsp HBP
    obtain ⟨ht3, hle3⟩ := trim_drop HS1.out
    have HT3 : Hid (Lib.trimPrefix (l.drop m) (spacedB false) = l.drop (m + 3)) := by
     show _ = _
     rw [ht3, List.drop_drop]
     rfl
    have hle3' : 3 ≤ (l.drop m).length := hle3
    rw [List.length_drop] at hle3'
    clear ht3 hle3
    have w3 : IntKind.i64.wrap ((m : Int) + 3) = ((m + 3 : Nat) : Int) := by rw [IntKind.wrap_i64]; omega
    have k30 : (0 : Int) ≤ ((m + 3 : Nat) : Int) := by omega
    have k31 : ((m + 3 : Nat) : Int) ≤ (l.length : Int) := by omega
    have htl3 : (l.drop (m + 3)).length ≤ 1000000 := by rw [List.length_drop]; omega
    obtain ⟨m3, hm3⟩ : ∃ m3, m + 3 = m3 := ⟨_, rfl⟩
    rw [hm3] at w3 k30 k31 htl3 HT3
    go_wp2_with fail
    rw [extract_from]
    refine (HREC.out w5b _ htl3).mono ?_
    rintro e w6 ⟨hb6, hres2⟩
    rcases hres2 with ⟨hn2, rfl⟩ | ⟨x2, cs2, n2, dd2, rfl, hx2, hnl2, hrd2⟩
    ·have hb7 := hb6.trans ((alloc_below w6 (.cells #[.int .i64 0, .int .i64 0, .string ⟨#[]⟩, .slice none 0 0] 24)).mono hb6.size)
     have HX7 := hide (HX4.out.later hb7); have HB7 := hide (HB4.out.trans (hb7.mono HB4.out.size)); have HN2 := hide hn2
     clear hb6 hb7 hn2
     have HFIN : Hid (RrP (readR (D + 1)) l w (.returned (.tuple #[.agg #[.int .i64 0, .int .i64 0, .string ⟨#[]⟩, .slice none 0 0], .int .i64 (-1)])) (put4 (w6.alloc (.cells #[.int .i64 0, .int .i64 0, .string ⟨#[]⟩, .slice none 0 0] 24)) w.heap.size 0 0 ⟨#[]⟩ (.slice none 0 0))) :=
      ⟨put4_below (HB7.out) (Nat.le_refl _) _ _ _ _, .inl ⟨(by rw [readR_two HP1.out, HT.out]; unfold twoR; rw [HRD.out]; simp only; rw [if_neg (Bool.eq_false_iff.1 HS0.out), if_pos HS1.out, HT3.out]; rw [HN2.out]), rfl⟩⟩
     obtain ⟨c0, c1, c2, c3, hf⟩ := (HX7.out).cells
     have f0 := hf 0; have f1 := hf 1; have f2 := hf 2; have f3 := hf 3
     obtain ⟨g0, g1, g2, g3, -⟩ := (ExB.put (HX7.out) 0 0 ⟨#[]⟩ (.slice none 0 0)).cells
     clear hf
     go_wp2
     exact bodyPost_ret (v := .tuple #[.agg #[.int .i64 0, .int .i64 0, .string ⟨#[]⟩, .slice none 0 0], .int .i64 (-1)]) (by simp [results, Tryd.results23, go_sem, g0, g1, g2, g3]) rfl HFIN.out
    ·obtain ⟨ka2, na2, sa2, oa2, ma2, cap2, rfl⟩ := hx2.agg
     have hb67 := alloc_below w6 (.cells #[.int .i64 ka2, .int .i64 na2, .string sa2, .slice oa2 ma2 cap2] 24)
     have HY7 := hide (ExB.new w6 ka2 na2 sa2 (.slice oa2 ma2 cap2))
     have HF7 := hide (hx2.later (base' := w.heap.size + 1) (by have := HB4.out.size; omega) hb67)
     have hb47 := hb6.trans (hb67.mono hb6.size)
     obtain ⟨W7, hW7⟩ : ∃ W7, w6.alloc (.cells #[.int .i64 ka2, .int .i64 na2, .string sa2, .slice oa2 ma2 cap2] 24) = W7 := ⟨_, rfl⟩
     rw [hW7] at hb67 HY7 HF7 hb47
     have HX7 := hide (HX4.out.later hb47); have HB7 := hide (HB4.out.trans (hb47.mono HB4.out.size)); have HV7 := hide (HY4.out.later hb47); have HG7 := hide (HF4.out.later (base' := w.heap.size + 1) (by omega) hb47)
     have hsz7 : w.heap.size + 1 ≤ W7.heap.size := by have := hb47.size; omega
     have hnl2' := hnl2
     rw [List.length_drop] at hnl2'
     have HRD2 : Hid (readR D (l.drop m3) = some (x2, l.drop (m3 + n2))) := by
      show _ = _
      rw [hrd2, List.drop_drop]
     obtain ⟨q, hq⟩ : ∃ q, m3 + n2 = q := ⟨_, rfl⟩
     have g2 : decide ((n2 : Int) < 0) = false := decide_eq_false (by omega)
     have wq : IntKind.i64.wrap ((m3 : Int) + (n2 : Int)) = (q : Int) := by rw [IntKind.wrap_i64]; omega
     have kq0 : (0 : Int) ≤ (q : Int) := by omega
     have kq1 : (q : Int) ≤ (l.length : Int) := by omega
     have w4 : IntKind.i64.wrap ((m : Int) + 4) = ((m + 4 : Nat) : Int) := by rw [IntKind.wrap_i64]; omega
     have w5 : IntKind.i64.wrap (((m + 4 : Nat) : Int) + (n2 : Int)) = ((q + 1 : Nat) : Int) := by rw [IntKind.wrap_i64]; omega
     obtain ⟨m4, hm4⟩ : ∃ m4, m + 4 = m4 := ⟨_, rfl⟩
     rw [hm4] at w4 w5
     rw [hq] at HRD2
     have HB9 := hide (begins_any (l.drop q) [41] W7)
     clear hb6 hb67 hb47 hx2 hnl2 hrd2 HF4 HY4 HX4 HB4
     obtain ⟨a0, a1, a2, a3, -⟩ := HV7.out.cells
     obtain ⟨b0, b1, b2, b3, -⟩ := HY7.out.cells
     go_wp2_with fail
     rw [extract_from]
     refine HB9.out.mono ?_
     rintro e w8 ⟨rfl, hw8⟩
     subst hw8
     cases hs2 : Lib.hasPrefix (l.drop q) [41] with
     | false =>
      have HS2 := hide hs2
      clear hs2
      have HFIN : Hid (RrP (readR (D + 1)) l w (.returned (.tuple #[.agg #[.int .i64 0, .int .i64 0, .string ⟨#[]⟩, .slice none 0 0], .int .i64 (-1)])) (put4 w8 w.heap.size 0 0 ⟨#[]⟩ (.slice none 0 0))) :=
       ⟨put4_below (HB7.out) (Nat.le_refl _) _ _ _ _, .inl ⟨(by rw [readR_two HP1.out, HT.out]; unfold twoR; rw [HRD.out]; simp only; rw [if_neg (Bool.eq_false_iff.1 HS0.out), if_pos HS1.out, HT3.out]; rw [HRD2.out]; simp only; rw [HS2.out]; rfl), rfl⟩⟩
      obtain ⟨c0, c1, c2, c3, hf⟩ := (HX7.out).cells
      have f0 := hf 0; have f1 := hf 1; have f2 := hf 2; have f3 := hf 3
      obtain ⟨g0, g1, g2, g3, -⟩ := (ExB.put (HX7.out) 0 0 ⟨#[]⟩ (.slice none 0 0)).cells
      clear hf
      go_wp2
      exact bodyPost_ret (v := .tuple #[.agg #[.int .i64 0, .int .i64 0, .string ⟨#[]⟩, .slice none 0 0], .int .i64 (-1)]) (by simp [results, Tryd.results23, go_sem, g0, g1, g2, g3]) rfl HFIN.out
     | true =>
      obtain ⟨ht4, hle4⟩ := trim_drop hs2
      have hle4' : 1 ≤ (l.drop q).length := hle4
      rw [List.length_drop] at hle4'
      have HS2 := hide hs2
      have HT4 : Hid (Lib.trimPrefix (l.drop q) [41] = l.drop (q + 1)) := by
       show _ = _
       rw [ht4, List.drop_drop]
       rfl
      clear hs2 ht4 hle4
      have hb9 := alloc_below w8 (.cells #[.int .i64 ka, .int .i64 na, .string sa, .slice oa ma cap, .int .i64 ka2, .int .i64 na2, .string sa2, .slice oa2 ma2 cap2] 24)
      have hh9 := heap_alloc_new w8 (.cells #[.int .i64 ka, .int .i64 na, .string sa, .slice oa ma cap, .int .i64 ka2, .int .i64 na2, .string sa2, .slice oa2 ma2 cap2] 24)
      obtain ⟨W9, hW9⟩ : ∃ W9, w8.alloc (.cells #[.int .i64 ka, .int .i64 na, .string sa, .slice oa ma cap, .int .i64 ka2, .int .i64 na2, .string sa2, .slice oa2 ma2 cap2] 24) = W9 := ⟨_, rfl⟩
      rw [hW9] at hb9 hh9
      have HX9 := hide (HX7.out.later hb9)
      have HFIN : Hid (RrP (readR (D + 1)) l w (.returned (.tuple #[.agg #[.int .i64 2, .int .i64 0, .string ⟨#[]⟩, .slice (some ⟨w8.heap.size, 0, none⟩) 2 2], .int .i64 ((q + 1 : Nat) : Int)])) (put4 W9 w.heap.size 2 0 ⟨#[]⟩ (.slice (some ⟨w8.heap.size, 0, none⟩) 2 2))) := by
       refine ⟨put4_below (HB7.out.trans (hb9.mono HB7.out.size)) (Nat.le_refl _) _ _ _ _, .inr ⟨.mk 2 0 ⟨#[]⟩ [x, x2], exC 2 0 ⟨#[]⟩ (.slice (some ⟨w8.heap.size, 0, none⟩) 2 2), q + 1, max dd dd2 + 1, rfl, ?_, by omega, ?_⟩⟩
       ·exact ExF.put (ExF.pair (t := 24) ((HG7.out.later (Nat.le_refl _) hb9).mono (Nat.le_max_left _ _)) ((HF7.out.later (Nat.le_refl _) hb9).mono (Nat.le_max_right _ _)) 2 0 ⟨#[]⟩ hsz7 hh9 rfl) (by omega) _ (by omega) _ _ _ _
       ·exact (by rw [readR_two HP1.out, HT.out]; unfold twoR; rw [HRD.out]; simp only; rw [if_neg (Bool.eq_false_iff.1 HS0.out), if_pos HS1.out, HT3.out]; rw [HRD2.out]; simp only; rw [if_pos HS2.out, HT4.out]; rfl)
      obtain ⟨c0, c1, c2, c3, hf⟩ := HX9.out.cells
      have f0 := hf 0; have f1 := hf 1; have f2 := hf 2; have f3 := hf 3
      obtain ⟨g0, g1, g2', g3, -⟩ := (ExB.put HX9.out 2 0 ⟨#[]⟩ (.slice (some ⟨w8.heap.size, 0, none⟩) 2 2)).cells
      clear hf hb9 hh9
      go_wp2
      exact bodyPost_ret (v := .tuple #[.agg #[.int .i64 2, .int .i64 0, .string ⟨#[]⟩, .slice (some ⟨w8.heap.size, 0, none⟩) 2 2], .int .i64 ((q + 1 : Nat) : Int)]) (by simp [results, Tryd.results23, go_sem, g0, g1, g2', g3]) rfl HFIN.out
   | false =>
    have HS1 : Hid (Lib.hasPrefix (l.drop m) (spacedB false) = false) := hsp
    clear hsp HBP
    have HFIN : Hid (RrP (readR (D + 1)) l w (.returned (.tuple #[.agg #[.int .i64 0, .int .i64 0, .string ⟨#[]⟩, .slice none 0 0], .int .i64 (-1)])) (put4 w5b w.heap.size 0 0 ⟨#[]⟩ (.slice none 0 0))) :=
     ⟨put4_below (HB4.out) (Nat.le_refl _) _ _ _ _, .inl ⟨(by rw [readR_two HP1.out, HT.out]; unfold twoR; rw [HRD.out]; simp only; rw [if_neg (Bool.eq_false_iff.1 HS0.out), if_neg (Bool.eq_false_iff.1 HS1.out)]), rfl⟩⟩
    obtain ⟨c0, c1, c2, c3, hf⟩ := (HX4.out).cells
    have f0 := hf 0; have f1 := hf 1; have f2 := hf 2; have f3 := hf 3
    obtain ⟨g0, g1, g2, g3, -⟩ := (ExB.put (HX4.out) 0 0 ⟨#[]⟩ (.slice none 0 0)).cells
    clear hf
    go_wp2
    exact bodyPost_ret (v := .tuple #[.agg #[.int .i64 0, .int .i64 0, .string ⟨#[]⟩, .slice none 0 0], .int .i64 (-1)]) (by simp [results, Tryd.results23, go_sem, g0, g1, g2, g3]) rfl HFIN.out

end Go.Proofs.YtanjajjjancggaaDoor

/- The reference: reading an expression: one case. -/
namespace Go.Proofs.YtanjajjjancggaaDoor
open Go.RowKit

set_option linter.unusedSimpArgs false in
set_option linter.unusedVariables false in
set_option maxRecDepth 100000 in
set_option maxHeartbeats 40000000 in
theorem readExpr_fill (D dp : Nat) (w : World) (l : List UInt8) (hd : dp + (D + 1) = 7) (hl : l.length ≤ 1000000) (H : ∀ (W : World) (m : List UInt8), m.length ≤ 1000000 → Calls Tryd.prog 23 #[strV m, .int .i64 ((dp + 1 : Nat) : Int)] W fun e w' => RrP (readR D) m W e w') (hp1 : Lib.hasPrefix l [40] = false) (hp2 : Lib.hasPrefix l fillP = true) : Calls Tryd.prog 23 #[strV l, .int .i64 (dp : Int)] w fun e w' => RrP (readR (D + 1)) l w e w' := by
 have HREC := hide H
 clear H
 have HX := hide (ExB.new w 0 0 ⟨#[]⟩ (.slice none 0 0)); have HB1 := hide (alloc_below w (.cells #[.int .i64 0, .int .i64 0, .string ⟨#[]⟩, .slice none 0 0] 24))
 obtain ⟨W1, hW1⟩ : ∃ W1, w.alloc (.cells #[.int .i64 0, .int .i64 0, .string ⟨#[]⟩, .slice none 0 0] 24) = W1 := ⟨_, rfl⟩
 have hsz1 : W1.heap.size = w.heap.size + 1 := by rw [← hW1]; simp
 rw [hW1] at HX HB1
 have g0 : decide ((6 : Int) < (dp : Int)) = false := decide_eq_false (by omega)
 have wd : IntKind.i64.wrap ((dp : Int) + 1) = ((dp + 1 : Nat) : Int) := by rw [IntKind.wrap_i64]; omega
 have HC1 := hide (begins_any l [40] W1); have HC2 := hide (begins_any l fillP W1); have HC3 := hide (begins_any l wholeP W1)
 go_enter Tryd.func23, Tryd.ntmps23
 go_wp2_with fail
 refine HC1.out.mono ?_
 rintro e w2 ⟨rfl, hw2⟩
 subst hw2
 clear HC1
 rw [hp1]
 have HP1 := hide hp1
 clear hp1
 go_wp2_with fail
 refine HC2.out.mono ?_
 rintro e w3 ⟨rfl, hw3⟩
 subst hw3
 clear HC2
 rw [hp2]
 obtain ⟨ht, hle⟩ := trim_drop hp2
 have hle' : 5 ≤ l.length := hle
 have HP2 := hide hp2
 have HT : Hid (Lib.trimPrefix l fillP = l.drop 5) := ht
 have htl : (l.drop 5).length ≤ 1000000 := by rw [List.length_drop]; omega
 have k1 : (5 : Int) ≤ (l.length : Int) := by omega
 clear hp2 ht hle HC3
 go_wp2_with fail
 rw [extract_from]
 refine (HREC.out w3 _ htl).mono ?_
 rintro e w4 ⟨hb4, hres⟩
 rcases hres with ⟨hn, rfl⟩ | ⟨x, cs, n, dd, rfl, hx, hnl, hrd⟩
 ·have hb5 := hb4.trans ((alloc_below w4 (.cells #[.int .i64 0, .int .i64 0, .string ⟨#[]⟩, .slice none 0 0] 24)).mono hb4.size)
  have HX5 := hide (HX.out.later hb5); have HB5 := hide (HB1.out.trans (hb5.mono HB1.out.size)); have HN := hide hn
  clear hb4 hb5 hn g0
  have HFIN : Hid (RrP (readR (D + 1)) l w (.returned (.tuple #[.agg #[.int .i64 0, .int .i64 0, .string ⟨#[]⟩, .slice none 0 0], .int .i64 (-1)])) (put4 (w4.alloc (.cells #[.int .i64 0, .int .i64 0, .string ⟨#[]⟩, .slice none 0 0] 24)) w.heap.size 0 0 ⟨#[]⟩ (.slice none 0 0))) :=
   ⟨put4_below (HB5.out) (Nat.le_refl _) _ _ _ _, .inl ⟨(by rw [readR_fill HP1.out HP2.out, HT.out, HN.out]), rfl⟩⟩
  obtain ⟨c0, c1, c2, c3, hf⟩ := (HX5.out).cells
  have f0 := hf 0; have f1 := hf 1; have f2 := hf 2; have f3 := hf 3
  obtain ⟨g0, g1, g2, g3, -⟩ := (ExB.put (HX5.out) 0 0 ⟨#[]⟩ (.slice none 0 0)).cells
  clear hf
  go_wp2
  exact bodyPost_ret (v := .tuple #[.agg #[.int .i64 0, .int .i64 0, .string ⟨#[]⟩, .slice none 0 0], .int .i64 (-1)]) (by simp [results, Tryd.results23, go_sem, g0, g1, g2, g3]) rfl HFIN.out
 ·obtain ⟨ka, na, sa, oa, ma, cap, rfl⟩ := hx.agg
  have hb5 := alloc_below w4 (.cells #[.int .i64 ka, .int .i64 na, .string sa, .slice oa ma cap] 24)
  have HY5 := hide (ExB.new w4 ka na sa (.slice oa ma cap))
  obtain ⟨W5, hW5⟩ : ∃ W5, w4.alloc (.cells #[.int .i64 ka, .int .i64 na, .string sa, .slice oa ma cap] 24) = W5 := ⟨_, rfl⟩
  rw [hW5] at hb5 HY5
  have hb6 := alloc_below W5 (.cells #[.int .i64 ka, .int .i64 na, .string sa, .slice oa ma cap] 24)
  have hh6 := heap_alloc_new W5 (.cells #[.int .i64 ka, .int .i64 na, .string sa, .slice oa ma cap] 24)
  obtain ⟨W6, hW6⟩ : ∃ W6, W5.alloc (.cells #[.int .i64 ka, .int .i64 na, .string sa, .slice oa ma cap] 24) = W6 := ⟨_, rfl⟩
  rw [hW6] at hb6 hh6
  have hb56 := hb5.trans (hb6.mono hb5.size)
  have hb46 := hb4.trans (hb56.mono hb4.size)
  have HX6 := hide (HX.out.later hb46)
  have hsz5 : w.heap.size + 1 ≤ W5.heap.size := by have := hb4.size; have := hb5.size; omega
  have hnl' := hnl
  rw [List.length_drop] at hnl'
  have g1 : decide ((n : Int) < 0) = false := decide_eq_false (by omega)
  have wn : IntKind.i64.wrap ((n : Int) + 5) = ((n + 5 : Nat) : Int) := by rw [IntKind.wrap_i64]; omega
  have HFIN : Hid (RrP (readR (D + 1)) l w (.returned (.tuple #[.agg #[.int .i64 4, .int .i64 0, .string ⟨#[]⟩, .slice (some ⟨W5.heap.size, 0, none⟩) 1 1], .int .i64 ((n + 5 : Nat) : Int)])) (put4 W6 w.heap.size 4 0 ⟨#[]⟩ (.slice (some ⟨W5.heap.size, 0, none⟩) 1 1))) := by
   refine ⟨put4_below (HB1.out.trans (hb46.mono HB1.out.size)) (Nat.le_refl _) _ _ _ _, .inr ⟨.mk 4 0 ⟨#[]⟩ [x], exC 4 0 ⟨#[]⟩ (.slice (some ⟨W5.heap.size, 0, none⟩) 1 1), n + 5, dd + 1, rfl, ?_, by omega, ?_⟩⟩
   ·exact (ExF.one (t := 24) (hx.later (Nat.le_refl _) hb56) 4 0 ⟨#[]⟩ (by omega) hh6).put (by omega) _ (by omega) _ _ _ _
   ·rw [readR_fill HP1.out HP2.out, HT.out, hrd]
    simp only
    rw [List.drop_drop, Nat.add_comm]
  obtain ⟨a0, a1, a2, a3, -⟩ := HY5.out.cells
  obtain ⟨c0, c1, c2, c3, hf⟩ := HX6.out.cells
  have f0 := hf 0; have f1 := hf 1; have f2 := hf 2; have f3 := hf 3
  clear g0
  obtain ⟨g0, g2, g3, g4, -⟩ := (ExB.put HX6.out 4 0 ⟨#[]⟩ (.slice (some ⟨W5.heap.size, 0, none⟩) 1 1)).cells
  clear hf hx hb4 hb5 hb6 hb56 hb46 hh6 hrd
  go_wp2
  exact bodyPost_ret (v := .tuple #[.agg #[.int .i64 4, .int .i64 0, .string ⟨#[]⟩, .slice (some ⟨W5.heap.size, 0, none⟩) 1 1], .int .i64 ((n + 5 : Nat) : Int)]) (by simp [results, Tryd.results23, go_sem, g0, g2, g3, g4]) rfl HFIN.out

end Go.Proofs.YtanjajjjancggaaDoor
