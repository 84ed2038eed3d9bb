/- The reference: reading an expression: one case. -/
import Derived.Test.YtanjajjjancggaaDoorRxI
namespace Go.Proofs.YtanjajjjancggaaDoor
open Go.RowKit

set_option linter.unusedSimpArgs false in
set_option linter.unusedVariables false in
set_option maxRecDepth 100000 in
set_option maxHeartbeats 40000000 in
theorem readExpr_whole (D dp : Nat) (w : World) (l : List UInt8) (hd : dp + (D + 1) = 7) (hl : l.length ≤ 1000000) (H : ∀ (W : World) (m : List UInt8), m.length ≤ 1000000 → Calls Tryd.prog 23 #[strV m, .int .i64 ((dp + 1 : Nat) : Int)] W fun e w' => RrP (readR D) m W e w') (hp1 : Lib.hasPrefix l [40] = false) (hp2 : Lib.hasPrefix l fillP = false) (hp3 : Lib.hasPrefix l wholeP = true) : Calls Tryd.prog 23 #[strV l, .int .i64 (dp : Int)] w fun e w' => RrP (readR (D + 1)) l w e w' := by
 have HREC := hide H
 clear H
 have HX := hide (ExB.new w 0 0 ⟨#[]⟩ (.slice none 0 0)); have HB1 := hide (alloc_below w (.cells #[.int .i64 0, .int .i64 0, .string ⟨#[]⟩, .slice none 0 0] 24))
 obtain ⟨W1, hW1⟩ : ∃ W1, w.alloc (.cells #[.int .i64 0, .int .i64 0, .string ⟨#[]⟩, .slice none 0 0] 24) = W1 := ⟨_, rfl⟩
 have hsz1 : W1.heap.size = w.heap.size + 1 := by rw [← hW1]; simp
 rw [hW1] at HX HB1
 have g0 : decide ((6 : Int) < (dp : Int)) = false := decide_eq_false (by omega)
 have wd : IntKind.i64.wrap ((dp : Int) + 1) = ((dp + 1 : Nat) : Int) := by rw [IntKind.wrap_i64]; omega
 have HC1 := hide (begins_any l [40] W1); have HC2 := hide (begins_any l fillP W1); have HC3 := hide (begins_any l wholeP W1)
 go_enter Tryd.func23, Tryd.ntmps23
 go_wp2_with fail
 refine HC1.out.mono ?_
 rintro e w2 ⟨rfl, hw2⟩
 subst hw2
 clear HC1
 rw [hp1]
 have HP1 := hide hp1
 clear hp1
 go_wp2_with fail
 refine HC2.out.mono ?_
 rintro e w3 ⟨rfl, hw3⟩
 subst hw3
 clear HC2
 rw [hp2]
 have HP2 := hide hp2
 clear hp2
 go_wp2_with fail
 refine HC3.out.mono ?_
 rintro e w4 ⟨rfl, hw4⟩
 subst hw4
 clear HC3
 rw [hp3]
 obtain ⟨ht, hle⟩ := trim_drop hp3
 have hle' : 6 ≤ l.length := hle
 have HP3 := hide hp3
 have HT : Hid (Lib.trimPrefix l wholeP = l.drop 6) := ht
 clear hp3 ht hle
 have HL : Hid (LtR l 6 6) := LtR.start l 6
 go_wp2
 go_loopw [14] (fun x wr => ∃ j : Nat, 6 ≤ j ∧ j ≤ l.length ∧ x = .int .i64 j ∧ Hid (LtR l 6 j) ∧ wr = w4) (fun x _ => l.length - (intOf x).toNat)
 case atStart => exact ⟨6, Nat.le_refl _, by omega, rfl, HL, rfl⟩
 case round =>
  clear HL
  obtain ⟨j, haj, hj, rfl, HL, hw⟩ := hrel
  subst wr
  have j0 : (0 : Int) ≤ (j : Int) := by omega
  have ja : (6 : Int) ≤ (j : Int) := by omega
  have jl' : (j : Int) ≤ (l.length : Int) := by omega
  by_cases hjl : j < l.length
  ·obtain ⟨b, hget⟩ : ∃ b, l[j]? = some b := ⟨_, List.getElem?_eq_getElem hjl⟩
   have jl : (j : Int) < (l.length : Int) := by omega
   have hsz : j < (⟨l.toArray⟩ : ByteArray).size := by show j < l.toArray.size; simpa using hjl
   have hb1 : l[j]'hjl = b := (List.getElem?_eq_some_iff.1 hget).2
   have hb2 : (⟨l.toArray⟩ : ByteArray)[j]'hsz = b := by rw [← hb1]; rfl
   have hjd : decide ((j : Int) < (l.length : Int)) = true := decide_eq_true jl
   cases c1 : decide ((97 : Int) ≤ (b.toNat : Int)) with
   | true =>
    cases c2 : decide ((b.toNat : Int) ≤ 122) with
    | true =>
     have HL2 : Hid (LtR l 6 (j + 1)) := HL.out.step haj hget (by rw [inRef_of c1 c2 rfl rfl]; rfl)
     clear HL hget
     go_wp2
     go_roundw
     case rel => exact ⟨j + 1, by omega, by omega, by go_num, HL2, by first | rfl | trivial⟩
     case measure => simp [intOf]; omega
    | false =>
     have c3 : decide ((48 : Int) ≤ (b.toNat : Int)) = true := decide_eq_true (by have := of_decide_eq_true c1; omega)
     have c4 : decide ((b.toNat : Int) ≤ 57) = false := decide_eq_false (by have := of_decide_eq_true c1; omega)
     obtain ⟨tw, dw⟩ := HL.out.fin (fun b' hb' => by rw [hget] at hb'; obtain rfl := Option.some.inj hb'; rw [inRef_of c1 c2 c3 c4]; rfl)
     have hWl : ((l.drop 6).take (j - 6)).length = j - 6 := by rw [List.length_take, List.length_drop]; omega
     have hex := extract_mid l 6 j
     obtain ⟨V, hV⟩ : ∃ V, (l.drop 6).take (j - 6) = V := ⟨_, rfl⟩
     rw [hV] at tw hex hWl
     have TW := hide tw; have DW := hide dw
     clear tw dw hV HL
     by_cases hv1 : V.length = 1
     ·obtain ⟨c, rfl⟩ := List.length_eq_one_iff.1 hv1
      clear hv1 hWl
      have hb3 : (⟨#[c]⟩ : ByteArray)[0]'(by show 0 < 1; decide) = c := rfl
      cases d1 : decide ((c.toNat : Int) < 49) with
      | true =>
       have HFIN : Hid (RrP (readR (D + 1)) l w (.returned (.tuple #[.agg #[.int .i64 0, .int .i64 0, .string ⟨#[]⟩, .slice none 0 0], .int .i64 (-1)])) (put4 w4 w.heap.size 0 0 ⟨#[]⟩ (.slice none 0 0))) :=
        ⟨put4_below HB1.out (Nat.le_refl _) _ _ _ _, .inl ⟨by rw [readR_whole' HP1.out HP2.out HP3.out, HT.out, TW.out]; simp only; rw [if_neg (by have := of_decide_eq_true d1; omega)], rfl⟩⟩
       obtain ⟨e0, e1, e2, e3, hf⟩ := HX.out.cells
       have f0 := hf 0; have f1 := hf 1; have f2 := hf 2; have f3 := hf 3
       clear g0
       obtain ⟨g0, g1, g2, g3, -⟩ := (ExB.put HX.out 0 0 ⟨#[]⟩ (.slice none 0 0)).cells
       clear hf
       go_wp2
       exact bodyPost_ret (v := .tuple #[.agg #[.int .i64 0, .int .i64 0, .string ⟨#[]⟩, .slice none 0 0], .int .i64 (-1)]) (by simp [results, Tryd.results23, go_sem, g0, g1, g2, g3]) rfl HFIN.out
      | false =>
       cases d2 : decide ((52 : Int) < (c.toNat : Int)) with
       | true =>
        have HFIN : Hid (RrP (readR (D + 1)) l w (.returned (.tuple #[.agg #[.int .i64 0, .int .i64 0, .string ⟨#[]⟩, .slice none 0 0], .int .i64 (-1)])) (put4 w4 w.heap.size 0 0 ⟨#[]⟩ (.slice none 0 0))) :=
         ⟨put4_below HB1.out (Nat.le_refl _) _ _ _ _, .inl ⟨by rw [readR_whole' HP1.out HP2.out HP3.out, HT.out, TW.out]; simp only; rw [if_neg (by have := of_decide_eq_true d2; omega)], rfl⟩⟩
        obtain ⟨e0, e1, e2, e3, hf⟩ := HX.out.cells
        have f0 := hf 0; have f1 := hf 1; have f2 := hf 2; have f3 := hf 3
        clear g0
        obtain ⟨g0, g1, g2, g3, -⟩ := (ExB.put HX.out 0 0 ⟨#[]⟩ (.slice none 0 0)).cells
        clear hf
        go_wp2
        exact bodyPost_ret (v := .tuple #[.agg #[.int .i64 0, .int .i64 0, .string ⟨#[]⟩, .slice none 0 0], .int .i64 (-1)]) (by simp [results, Tryd.results23, go_sem, g0, g1, g2, g3]) rfl HFIN.out
       | false =>
        have q1 : ¬ ((c.toNat : Int) < 49) := of_decide_eq_false d1
        have q2 : ¬ ((52 : Int) < (c.toNat : Int)) := of_decide_eq_false d2
        have wu : IntKind.u8.wrap ((c.toNat : Int) - 48) = (c.toNat : Int) - 48 := by rw [IntKind.wrap_u8]; omega
        have wi : IntKind.i64.wrap ((c.toNat : Int) - 48) = (c.toNat : Int) - 48 := by rw [IntKind.wrap_i64]; omega
        have HFIN : Hid (RrP (readR (D + 1)) l w (.returned (.tuple #[.agg #[.int .i64 5, .int .i64 ((c.toNat : Int) - 48), .string ⟨#[]⟩, .slice none 0 0], .int .i64 (j : Int)])) (put4 w4 w.heap.size 5 ((c.toNat : Int) - 48) ⟨#[]⟩ (.slice none 0 0))) :=
         ⟨put4_below HB1.out (Nat.le_refl _) _ _ _ _, .inr ⟨.mk 5 ((c.toNat : Int) - 48) ⟨#[]⟩ [], exC 5 ((c.toNat : Int) - 48) ⟨#[]⟩ (.slice none 0 0), j, 1, rfl, ExF.leaf _ _ _ _ _, hj, by rw [readR_whole' HP1.out HP2.out HP3.out, HT.out, TW.out]; simp only; rw [if_pos (by omega), DW.out]⟩⟩
        obtain ⟨e0, e1, e2, e3, hf⟩ := HX.out.cells
        have f0 := hf 0; have f1 := hf 1; have f2 := hf 2; have f3 := hf 3
        clear g0
        obtain ⟨g0, g1, g2, g3, -⟩ := (ExB.put HX.out 5 ((c.toNat : Int) - 48) ⟨#[]⟩ (.slice none 0 0)).cells
        clear hf
        go_wp2
        exact bodyPost_ret (v := .tuple #[.agg #[.int .i64 5, .int .i64 ((c.toNat : Int) - 48), .string ⟨#[]⟩, .slice none 0 0], .int .i64 (j : Int)]) (by simp [results, Tryd.results23, go_sem, g0, g1, g2, g3]) rfl HFIN.out
     ·have hvn : ((V.length : Int) == 1) = false := beq_eq_false_iff_ne.2 (by omega)
      have HFIN : Hid (RrP (readR (D + 1)) l w (.returned (.tuple #[.agg #[.int .i64 0, .int .i64 0, .string ⟨#[]⟩, .slice none 0 0], .int .i64 (-1)])) (put4 w4 w.heap.size 0 0 ⟨#[]⟩ (.slice none 0 0))) :=
       ⟨put4_below HB1.out (Nat.le_refl _) _ _ _ _, .inl ⟨by rw [readR_whole' HP1.out HP2.out HP3.out, HT.out, TW.out]; match V, hv1 with | [], _ => rfl | [c], h => exact absurd rfl h | _ :: _ :: _, _ => rfl, rfl⟩⟩
      obtain ⟨e0, e1, e2, e3, hf⟩ := HX.out.cells
      have f0 := hf 0; have f1 := hf 1; have f2 := hf 2; have f3 := hf 3
      clear g0
      obtain ⟨g0, g1, g2, g3, -⟩ := (ExB.put HX.out 0 0 ⟨#[]⟩ (.slice none 0 0)).cells
      clear hf
      go_wp2
      exact bodyPost_ret (v := .tuple #[.agg #[.int .i64 0, .int .i64 0, .string ⟨#[]⟩, .slice none 0 0], .int .i64 (-1)]) (by simp [results, Tryd.results23, go_sem, g0, g1, g2, g3]) rfl HFIN.out
   | false =>
    cases c3 : decide ((48 : Int) ≤ (b.toNat : Int)) with
    | true =>
     cases c4 : decide ((b.toNat : Int) ≤ 57) with
     | true =>
      have HL2 : Hid (LtR l 6 (j + 1)) := HL.out.step haj hget (by rw [inRef_of c1 rfl c3 c4]; rfl)
      clear HL hget
      go_wp2
      go_roundw
      case rel => exact ⟨j + 1, by omega, by omega, by go_num, HL2, by first | rfl | trivial⟩
      case measure => simp [intOf]; omega
     | false =>
      obtain ⟨tw, dw⟩ := HL.out.fin (fun b' hb' => by rw [hget] at hb'; obtain rfl := Option.some.inj hb'; rw [inRef_of c1 rfl c3 c4]; rfl)
      have hWl : ((l.drop 6).take (j - 6)).length = j - 6 := by rw [List.length_take, List.length_drop]; omega
      have hex := extract_mid l 6 j
      obtain ⟨V, hV⟩ : ∃ V, (l.drop 6).take (j - 6) = V := ⟨_, rfl⟩
      rw [hV] at tw hex hWl
      have TW := hide tw; have DW := hide dw
      clear tw dw hV HL
      by_cases hv1 : V.length = 1
      ·obtain ⟨c, rfl⟩ := List.length_eq_one_iff.1 hv1
       clear hv1 hWl
       have hb3 : (⟨#[c]⟩ : ByteArray)[0]'(by show 0 < 1; decide) = c := rfl
       cases d1 : decide ((c.toNat : Int) < 49) with
       | true =>
        have HFIN : Hid (RrP (readR (D + 1)) l w (.returned (.tuple #[.agg #[.int .i64 0, .int .i64 0, .string ⟨#[]⟩, .slice none 0 0], .int .i64 (-1)])) (put4 w4 w.heap.size 0 0 ⟨#[]⟩ (.slice none 0 0))) :=
         ⟨put4_below HB1.out (Nat.le_refl _) _ _ _ _, .inl ⟨by rw [readR_whole' HP1.out HP2.out HP3.out, HT.out, TW.out]; simp only; rw [if_neg (by have := of_decide_eq_true d1; omega)], rfl⟩⟩
        obtain ⟨e0, e1, e2, e3, hf⟩ := HX.out.cells
        have f0 := hf 0; have f1 := hf 1; have f2 := hf 2; have f3 := hf 3
        clear g0
        obtain ⟨g0, g1, g2, g3, -⟩ := (ExB.put HX.out 0 0 ⟨#[]⟩ (.slice none 0 0)).cells
        clear hf
        go_wp2
        exact bodyPost_ret (v := .tuple #[.agg #[.int .i64 0, .int .i64 0, .string ⟨#[]⟩, .slice none 0 0], .int .i64 (-1)]) (by simp [results, Tryd.results23, go_sem, g0, g1, g2, g3]) rfl HFIN.out
       | false =>
        cases d2 : decide ((52 : Int) < (c.toNat : Int)) with
        | true =>
         have HFIN : Hid (RrP (readR (D + 1)) l w (.returned (.tuple #[.agg #[.int .i64 0, .int .i64 0, .string ⟨#[]⟩, .slice none 0 0], .int .i64 (-1)])) (put4 w4 w.heap.size 0 0 ⟨#[]⟩ (.slice none 0 0))) :=
          ⟨put4_below HB1.out (Nat.le_refl _) _ _ _ _, .inl ⟨by rw [readR_whole' HP1.out HP2.out HP3.out, HT.out, TW.out]; simp only; rw [if_neg (by have := of_decide_eq_true d2; omega)], rfl⟩⟩
         obtain ⟨e0, e1, e2, e3, hf⟩ := HX.out.cells
         have f0 := hf 0; have f1 := hf 1; have f2 := hf 2; have f3 := hf 3
         clear g0
         obtain ⟨g0, g1, g2, g3, -⟩ := (ExB.put HX.out 0 0 ⟨#[]⟩ (.slice none 0 0)).cells
         clear hf
         go_wp2
         exact bodyPost_ret (v := .tuple #[.agg #[.int .i64 0, .int .i64 0, .string ⟨#[]⟩, .slice none 0 0], .int .i64 (-1)]) (by simp [results, Tryd.results23, go_sem, g0, g1, g2, g3]) rfl HFIN.out
        | false =>
         have q1 : ¬ ((c.toNat : Int) < 49) := of_decide_eq_false d1
         have q2 : ¬ ((52 : Int) < (c.toNat : Int)) := of_decide_eq_false d2
         have wu : IntKind.u8.wrap ((c.toNat : Int) - 48) = (c.toNat : Int) - 48 := by rw [IntKind.wrap_u8]; omega
         have wi : IntKind.i64.wrap ((c.toNat : Int) - 48) = (c.toNat : Int) - 48 := by rw [IntKind.wrap_i64]; omega
         have HFIN : Hid (RrP (readR (D + 1)) l w (.returned (.tuple #[.agg #[.int .i64 5, .int .i64 ((c.toNat : Int) - 48), .string ⟨#[]⟩, .slice none 0 0], .int .i64 (j : Int)])) (put4 w4 w.heap.size 5 ((c.toNat : Int) - 48) ⟨#[]⟩ (.slice none 0 0))) :=
          ⟨put4_below HB1.out (Nat.le_refl _) _ _ _ _, .inr ⟨.mk 5 ((c.toNat : Int) - 48) ⟨#[]⟩ [], exC 5 ((c.toNat : Int) - 48) ⟨#[]⟩ (.slice none 0 0), j, 1, rfl, ExF.leaf _ _ _ _ _, hj, by rw [readR_whole' HP1.out HP2.out HP3.out, HT.out, TW.out]; simp only; rw [if_pos (by omega), DW.out]⟩⟩
         obtain ⟨e0, e1, e2, e3, hf⟩ := HX.out.cells
         have f0 := hf 0; have f1 := hf 1; have f2 := hf 2; have f3 := hf 3
         clear g0
         obtain ⟨g0, g1, g2, g3, -⟩ := (ExB.put HX.out 5 ((c.toNat : Int) - 48) ⟨#[]⟩ (.slice none 0 0)).cells
         clear hf
         go_wp2
         exact bodyPost_ret (v := .tuple #[.agg #[.int .i64 5, .int .i64 ((c.toNat : Int) - 48), .string ⟨#[]⟩, .slice none 0 0], .int .i64 (j : Int)]) (by simp [results, Tryd.results23, go_sem, g0, g1, g2, g3]) rfl HFIN.out
      ·have hvn : ((V.length : Int) == 1) = false := beq_eq_false_iff_ne.2 (by omega)
       have HFIN : Hid (RrP (readR (D + 1)) l w (.returned (.tuple #[.agg #[.int .i64 0, .int .i64 0, .string ⟨#[]⟩, .slice none 0 0], .int .i64 (-1)])) (put4 w4 w.heap.size 0 0 ⟨#[]⟩ (.slice none 0 0))) :=
        ⟨put4_below HB1.out (Nat.le_refl _) _ _ _ _, .inl ⟨by rw [readR_whole' HP1.out HP2.out HP3.out, HT.out, TW.out]; match V, hv1 with | [], _ => rfl | [c], h => exact absurd rfl h | _ :: _ :: _, _ => rfl, rfl⟩⟩
       obtain ⟨e0, e1, e2, e3, hf⟩ := HX.out.cells
       have f0 := hf 0; have f1 := hf 1; have f2 := hf 2; have f3 := hf 3
       clear g0
       obtain ⟨g0, g1, g2, g3, -⟩ := (ExB.put HX.out 0 0 ⟨#[]⟩ (.slice none 0 0)).cells
       clear hf
       go_wp2
       exact bodyPost_ret (v := .tuple #[.agg #[.int .i64 0, .int .i64 0, .string ⟨#[]⟩, .slice none 0 0], .int .i64 (-1)]) (by simp [results, Tryd.results23, go_sem, g0, g1, g2, g3]) rfl HFIN.out
    | false =>
     obtain ⟨tw, dw⟩ := HL.out.fin (fun b' hb' => by rw [hget] at hb'; obtain rfl := Option.some.inj hb'; rw [inRef_of c1 rfl c3 rfl]; rfl)
     have hWl : ((l.drop 6).take (j - 6)).length = j - 6 := by rw [List.length_take, List.length_drop]; omega
     have hex := extract_mid l 6 j
     obtain ⟨V, hV⟩ : ∃ V, (l.drop 6).take (j - 6) = V := ⟨_, rfl⟩
     rw [hV] at tw hex hWl
     have TW := hide tw; have DW := hide dw
     clear tw dw hV HL
     by_cases hv1 : V.length = 1
     ·obtain ⟨c, rfl⟩ := List.length_eq_one_iff.1 hv1
      clear hv1 hWl
      have hb3 : (⟨#[c]⟩ : ByteArray)[0]'(by show 0 < 1; decide) = c := rfl
      cases d1 : decide ((c.toNat : Int) < 49) with
      | true =>
       have HFIN : Hid (RrP (readR (D + 1)) l w (.returned (.tuple #[.agg #[.int .i64 0, .int .i64 0, .string ⟨#[]⟩, .slice none 0 0], .int .i64 (-1)])) (put4 w4 w.heap.size 0 0 ⟨#[]⟩ (.slice none 0 0))) :=
        ⟨put4_below HB1.out (Nat.le_refl _) _ _ _ _, .inl ⟨by rw [readR_whole' HP1.out HP2.out HP3.out, HT.out, TW.out]; simp only; rw [if_neg (by have := of_decide_eq_true d1; omega)], rfl⟩⟩
       obtain ⟨e0, e1, e2, e3, hf⟩ := HX.out.cells
       have f0 := hf 0; have f1 := hf 1; have f2 := hf 2; have f3 := hf 3
       clear g0
       obtain ⟨g0, g1, g2, g3, -⟩ := (ExB.put HX.out 0 0 ⟨#[]⟩ (.slice none 0 0)).cells
       clear hf
       go_wp2
       exact bodyPost_ret (v := .tuple #[.agg #[.int .i64 0, .int .i64 0, .string ⟨#[]⟩, .slice none 0 0], .int .i64 (-1)]) (by simp [results, Tryd.results23, go_sem, g0, g1, g2, g3]) rfl HFIN.out
      | false =>
       cases d2 : decide ((52 : Int) < (c.toNat : Int)) with
       | true =>
        have HFIN : Hid (RrP (readR (D + 1)) l w (.returned (.tuple #[.agg #[.int .i64 0, .int .i64 0, .string ⟨#[]⟩, .slice none 0 0], .int .i64 (-1)])) (put4 w4 w.heap.size 0 0 ⟨#[]⟩ (.slice none 0 0))) :=
         ⟨put4_below HB1.out (Nat.le_refl _) _ _ _ _, .inl ⟨by rw [readR_whole' HP1.out HP2.out HP3.out, HT.out, TW.out]; simp only; rw [if_neg (by have := of_decide_eq_true d2; omega)], rfl⟩⟩
        obtain ⟨e0, e1, e2, e3, hf⟩ := HX.out.cells
        have f0 := hf 0; have f1 := hf 1; have f2 := hf 2; have f3 := hf 3
        clear g0
        obtain ⟨g0, g1, g2, g3, -⟩ := (ExB.put HX.out 0 0 ⟨#[]⟩ (.slice none 0 0)).cells
        clear hf
        go_wp2
        exact bodyPost_ret (v := .tuple #[.agg #[.int .i64 0, .int .i64 0, .string ⟨#[]⟩, .slice none 0 0], .int .i64 (-1)]) (by simp [results, Tryd.results23, go_sem, g0, g1, g2, g3]) rfl HFIN.out
       | false =>
        have q1 : ¬ ((c.toNat : Int) < 49) := of_decide_eq_false d1
        have q2 : ¬ ((52 : Int) < (c.toNat : Int)) := of_decide_eq_false d2
        have wu : IntKind.u8.wrap ((c.toNat : Int) - 48) = (c.toNat : Int) - 48 := by rw [IntKind.wrap_u8]; omega
        have wi : IntKind.i64.wrap ((c.toNat : Int) - 48) = (c.toNat : Int) - 48 := by rw [IntKind.wrap_i64]; omega
        have HFIN : Hid (RrP (readR (D + 1)) l w (.returned (.tuple #[.agg #[.int .i64 5, .int .i64 ((c.toNat : Int) - 48), .string ⟨#[]⟩, .slice none 0 0], .int .i64 (j : Int)])) (put4 w4 w.heap.size 5 ((c.toNat : Int) - 48) ⟨#[]⟩ (.slice none 0 0))) :=
         ⟨put4_below HB1.out (Nat.le_refl _) _ _ _ _, .inr ⟨.mk 5 ((c.toNat : Int) - 48) ⟨#[]⟩ [], exC 5 ((c.toNat : Int) - 48) ⟨#[]⟩ (.slice none 0 0), j, 1, rfl, ExF.leaf _ _ _ _ _, hj, by rw [readR_whole' HP1.out HP2.out HP3.out, HT.out, TW.out]; simp only; rw [if_pos (by omega), DW.out]⟩⟩
        obtain ⟨e0, e1, e2, e3, hf⟩ := HX.out.cells
        have f0 := hf 0; have f1 := hf 1; have f2 := hf 2; have f3 := hf 3
        clear g0
        obtain ⟨g0, g1, g2, g3, -⟩ := (ExB.put HX.out 5 ((c.toNat : Int) - 48) ⟨#[]⟩ (.slice none 0 0)).cells
        clear hf
        go_wp2
        exact bodyPost_ret (v := .tuple #[.agg #[.int .i64 5, .int .i64 ((c.toNat : Int) - 48), .string ⟨#[]⟩, .slice none 0 0], .int .i64 (j : Int)]) (by simp [results, Tryd.results23, go_sem, g0, g1, g2, g3]) rfl HFIN.out
     ·have hvn : ((V.length : Int) == 1) = false := beq_eq_false_iff_ne.2 (by omega)
      have HFIN : Hid (RrP (readR (D + 1)) l w (.returned (.tuple #[.agg #[.int .i64 0, .int .i64 0, .string ⟨#[]⟩, .slice none 0 0], .int .i64 (-1)])) (put4 w4 w.heap.size 0 0 ⟨#[]⟩ (.slice none 0 0))) :=
       ⟨put4_below HB1.out (Nat.le_refl _) _ _ _ _, .inl ⟨by rw [readR_whole' HP1.out HP2.out HP3.out, HT.out, TW.out]; match V, hv1 with | [], _ => rfl | [c], h => exact absurd rfl h | _ :: _ :: _, _ => rfl, rfl⟩⟩
      obtain ⟨e0, e1, e2, e3, hf⟩ := HX.out.cells
      have f0 := hf 0; have f1 := hf 1; have f2 := hf 2; have f3 := hf 3
      clear g0
      obtain ⟨g0, g1, g2, g3, -⟩ := (ExB.put HX.out 0 0 ⟨#[]⟩ (.slice none 0 0)).cells
      clear hf
      go_wp2
      exact bodyPost_ret (v := .tuple #[.agg #[.int .i64 0, .int .i64 0, .string ⟨#[]⟩, .slice none 0 0], .int .i64 (-1)]) (by simp [results, Tryd.results23, go_sem, g0, g1, g2, g3]) rfl HFIN.out
  ·have hjd : decide ((j : Int) < (l.length : Int)) = false := decide_eq_false (by omega)
   obtain ⟨tw, dw⟩ := HL.out.fin (fun b' hb' => absurd (List.getElem?_eq_some_iff.1 hb').1 hjl)
   have hWl : ((l.drop 6).take (j - 6)).length = j - 6 := by rw [List.length_take, List.length_drop]; omega
   have hex := extract_mid l 6 j
   obtain ⟨V, hV⟩ : ∃ V, (l.drop 6).take (j - 6) = V := ⟨_, rfl⟩
   rw [hV] at tw hex hWl
   have TW := hide tw; have DW := hide dw
   clear tw dw hV HL
   by_cases hv1 : V.length = 1
   ·obtain ⟨c, rfl⟩ := List.length_eq_one_iff.1 hv1
    clear hv1 hWl
    have hb3 : (⟨#[c]⟩ : ByteArray)[0]'(by show 0 < 1; decide) = c := rfl
    cases d1 : decide ((c.toNat : Int) < 49) with
    | true =>
     have HFIN : Hid (RrP (readR (D + 1)) l w (.returned (.tuple #[.agg #[.int .i64 0, .int .i64 0, .string ⟨#[]⟩, .slice none 0 0], .int .i64 (-1)])) (put4 w4 w.heap.size 0 0 ⟨#[]⟩ (.slice none 0 0))) :=
      ⟨put4_below HB1.out (Nat.le_refl _) _ _ _ _, .inl ⟨by rw [readR_whole' HP1.out HP2.out HP3.out, HT.out, TW.out]; simp only; rw [if_neg (by have := of_decide_eq_true d1; omega)], rfl⟩⟩
     obtain ⟨e0, e1, e2, e3, hf⟩ := HX.out.cells
     have f0 := hf 0; have f1 := hf 1; have f2 := hf 2; have f3 := hf 3
     clear g0
     obtain ⟨g0, g1, g2, g3, -⟩ := (ExB.put HX.out 0 0 ⟨#[]⟩ (.slice none 0 0)).cells
     clear hf
     go_wp2
     exact bodyPost_ret (v := .tuple #[.agg #[.int .i64 0, .int .i64 0, .string ⟨#[]⟩, .slice none 0 0], .int .i64 (-1)]) (by simp [results, Tryd.results23, go_sem, g0, g1, g2, g3]) rfl HFIN.out
    | false =>
     cases d2 : decide ((52 : Int) < (c.toNat : Int)) with
     | true =>
      have HFIN : Hid (RrP (readR (D + 1)) l w (.returned (.tuple #[.agg #[.int .i64 0, .int .i64 0, .string ⟨#[]⟩, .slice none 0 0], .int .i64 (-1)])) (put4 w4 w.heap.size 0 0 ⟨#[]⟩ (.slice none 0 0))) :=
       ⟨put4_below HB1.out (Nat.le_refl _) _ _ _ _, .inl ⟨by rw [readR_whole' HP1.out HP2.out HP3.out, HT.out, TW.out]; simp only; rw [if_neg (by have := of_decide_eq_true d2; omega)], rfl⟩⟩
      obtain ⟨e0, e1, e2, e3, hf⟩ := HX.out.cells
      have f0 := hf 0; have f1 := hf 1; have f2 := hf 2; have f3 := hf 3
      clear g0
      obtain ⟨g0, g1, g2, g3, -⟩ := (ExB.put HX.out 0 0 ⟨#[]⟩ (.slice none 0 0)).cells
      clear hf
      go_wp2
      exact bodyPost_ret (v := .tuple #[.agg #[.int .i64 0, .int .i64 0, .string ⟨#[]⟩, .slice none 0 0], .int .i64 (-1)]) (by simp [results, Tryd.results23, go_sem, g0, g1, g2, g3]) rfl HFIN.out
     | false =>
      have q1 : ¬ ((c.toNat : Int) < 49) := of_decide_eq_false d1
      have q2 : ¬ ((52 : Int) < (c.toNat : Int)) := of_decide_eq_false d2
      have wu : IntKind.u8.wrap ((c.toNat : Int) - 48) = (c.toNat : Int) - 48 := by rw [IntKind.wrap_u8]; omega
      have wi : IntKind.i64.wrap ((c.toNat : Int) - 48) = (c.toNat : Int) - 48 := by rw [IntKind.wrap_i64]; omega
      have HFIN : Hid (RrP (readR (D + 1)) l w (.returned (.tuple #[.agg #[.int .i64 5, .int .i64 ((c.toNat : Int) - 48), .string ⟨#[]⟩, .slice none 0 0], .int .i64 (j : Int)])) (put4 w4 w.heap.size 5 ((c.toNat : Int) - 48) ⟨#[]⟩ (.slice none 0 0))) :=
       ⟨put4_below HB1.out (Nat.le_refl _) _ _ _ _, .inr ⟨.mk 5 ((c.toNat : Int) - 48) ⟨#[]⟩ [], exC 5 ((c.toNat : Int) - 48) ⟨#[]⟩ (.slice none 0 0), j, 1, rfl, ExF.leaf _ _ _ _ _, hj, by rw [readR_whole' HP1.out HP2.out HP3.out, HT.out, TW.out]; simp only; rw [if_pos (by omega), DW.out]⟩⟩
      obtain ⟨e0, e1, e2, e3, hf⟩ := HX.out.cells
      have f0 := hf 0; have f1 := hf 1; have f2 := hf 2; have f3 := hf 3
      clear g0
      obtain ⟨g0, g1, g2, g3, -⟩ := (ExB.put HX.out 5 ((c.toNat : Int) - 48) ⟨#[]⟩ (.slice none 0 0)).cells
      clear hf
      go_wp2
      exact bodyPost_ret (v := .tuple #[.agg #[.int .i64 5, .int .i64 ((c.toNat : Int) - 48), .string ⟨#[]⟩, .slice none 0 0], .int .i64 (j : Int)]) (by simp [results, Tryd.results23, go_sem, g0, g1, g2, g3]) rfl HFIN.out
   ·have hvn : ((V.length : Int) == 1) = false := beq_eq_false_iff_ne.2 (by omega)
    have HFIN : Hid (RrP (readR (D + 1)) l w (.returned (.tuple #[.agg #[.int .i64 0, .int .i64 0, .string ⟨#[]⟩, .slice none 0 0], .int .i64 (-1)])) (put4 w4 w.heap.size 0 0 ⟨#[]⟩ (.slice none 0 0))) :=
     ⟨put4_below HB1.out (Nat.le_refl _) _ _ _ _, .inl ⟨by rw [readR_whole' HP1.out HP2.out HP3.out, HT.out, TW.out]; match V, hv1 with | [], _ => rfl | [c], h => exact absurd rfl h | _ :: _ :: _, _ => rfl, rfl⟩⟩
    obtain ⟨e0, e1, e2, e3, hf⟩ := HX.out.cells
    have f0 := hf 0; have f1 := hf 1; have f2 := hf 2; have f3 := hf 3
    clear g0
    obtain ⟨g0, g1, g2, g3, -⟩ := (ExB.put HX.out 0 0 ⟨#[]⟩ (.slice none 0 0)).cells
    clear hf
    go_wp2
    exact bodyPost_ret (v := .tuple #[.agg #[.int .i64 0, .int .i64 0, .string ⟨#[]⟩, .slice none 0 0], .int .i64 (-1)]) (by simp [results, Tryd.results23, go_sem, g0, g1, g2, g3]) rfl HFIN.out

end Go.Proofs.YtanjajjjancggaaDoor
