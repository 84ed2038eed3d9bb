/- The reference: reading an expression: one case. -/
import Derived.Test.YtanjajjjancggaaDoorRxI
import Derived.Test.YtanjajjjancggaaDoorRxL
import Derived.Test.YtanjajjjancggaaDoorRxM
import Derived.Test.YtanjajjjancggaaDoorText

namespace Go.Proofs.YtanjajjjancggaaDoor
open Go.RowKit

set_option linter.unusedSimpArgs false in
set_option linter.unusedVariables false in
set_option maxRecDepth 100000 in
set_option maxHeartbeats 40000000 in
theorem readExpr_name (D dp : Nat) (w : World) (l : List UInt8) (hd : dp + (D + 1) = 7) (hl : l.length ≤ 1000000) (H : ∀ (W : World) (m : List UInt8), m.length ≤ 1000000 → Calls Tryd.prog 23 #[strV m, .int .i64 ((dp + 1 : Nat) : Int)] W fun e w' => RrP (readR D) m W e w') (hp1 : Lib.hasPrefix l [40] = false) (hp2 : Lib.hasPrefix l fillP = false) (hp3 : Lib.hasPrefix l wholeP = false) : Calls Tryd.prog 23 #[strV l, .int .i64 (dp : Int)] w fun e w' => RrP (readR (D + 1)) l w e w' := by
 have HREC := hide H
 clear H
 have HX := hide (ExB.new w 0 0 ⟨#[]⟩ (.slice none 0 0)); have HB1 := hide (alloc_below w (.cells #[.int .i64 0, .int .i64 0, .string ⟨#[]⟩, .slice none 0 0] 24))
 obtain ⟨W1, hW1⟩ : ∃ W1, w.alloc (.cells #[.int .i64 0, .int .i64 0, .string ⟨#[]⟩, .slice none 0 0] 24) = W1 := ⟨_, rfl⟩
 have hsz1 : W1.heap.size = w.heap.size + 1 := by rw [← hW1]; simp
 rw [hW1] at HX HB1
 have g0 : decide ((6 : Int) < (dp : Int)) = false := decide_eq_false (by omega)
 have wd : IntKind.i64.wrap ((dp : Int) + 1) = ((dp + 1 : Nat) : Int) := by rw [IntKind.wrap_i64]; omega
 have HC1 := hide (begins_any l [40] W1); have HC2 := hide (begins_any l fillP W1); have HC3 := hide (begins_any l wholeP W1)
 go_enter Tryd.func23, Tryd.ntmps23
 go_wp2_with fail
 refine HC1.out.mono ?_
 rintro e w2 ⟨rfl, hw2⟩
 subst hw2
 clear HC1
 rw [hp1]
 have HP1 := hide hp1
 clear hp1
 go_wp2_with fail
 refine HC2.out.mono ?_
 rintro e w3 ⟨rfl, hw3⟩
 subst hw3
 clear HC2
 rw [hp2]
 have HP2 := hide hp2
 clear hp2
 go_wp2_with fail
 refine HC3.out.mono ?_
 rintro e w4 ⟨rfl, hw4⟩
 subst hw4
 clear HC3
 rw [hp3]
 have HP3 := hide hp3
 clear hp3
 have HL : Hid (LtR l 0 0) := LtR.start l 0
 go_wp2
 go_loopw [14] (fun x wr => ∃ j : Nat, 0 ≤ j ∧ j ≤ l.length ∧ x = .int .i64 j ∧ Hid (LtR l 0 j) ∧ wr = w4) (fun x _ => l.length - (intOf x).toNat)
 case atStart => exact ⟨0, Nat.le_refl _, by omega, rfl, HL, rfl⟩
 case round =>
  clear HL
  obtain ⟨j, haj, hj, rfl, HL, hw⟩ := hrel
  subst wr
  have j0 : (0 : Int) ≤ (j : Int) := by omega
  have ja : (0 : Int) ≤ (j : Int) := by omega
  have jl' : (j : Int) ≤ (l.length : Int) := by omega
  by_cases hjl : j < l.length
  ·obtain ⟨b, hget⟩ : ∃ b, l[j]? = some b := ⟨_, List.getElem?_eq_getElem hjl⟩
   have jl : (j : Int) < (l.length : Int) := by omega
   have hsz : j < (⟨l.toArray⟩ : ByteArray).size := by show j < l.toArray.size; simpa using hjl
   have hb1 : l[j]'hjl = b := (List.getElem?_eq_some_iff.1 hget).2
   have hb2 : (⟨l.toArray⟩ : ByteArray)[j]'hsz = b := by rw [← hb1]; rfl
   have hjd : decide ((j : Int) < (l.length : Int)) = true := decide_eq_true jl
   cases c1 : decide ((97 : Int) ≤ (b.toNat : Int)) with
   | true =>
    cases c2 : decide ((b.toNat : Int) ≤ 122) with
    | true =>
     have HL2 : Hid (LtR l 0 (j + 1)) := HL.out.step haj hget (by rw [inRef_of c1 c2 rfl rfl]; rfl)
     clear HL hget
     go_wp2
     go_roundw
     case rel => exact ⟨j + 1, by omega, by omega, by go_num, HL2, by first | rfl | trivial⟩
     case measure => simp [intOf]; omega
    | false =>
     have c3 : decide ((48 : Int) ≤ (b.toNat : Int)) = true := decide_eq_true (by have := of_decide_eq_true c1; omega)
     have c4 : decide ((b.toNat : Int) ≤ 57) = false := decide_eq_false (by have := of_decide_eq_true c1; omega)
     obtain ⟨tw, dw⟩ := HL.out.fin (fun b' hb' => by rw [hget] at hb'; obtain rfl := Option.some.inj hb'; rw [inRef_of c1 c2 c3 c4]; rfl)
     have hWl : ((l.drop 0).take (j - 0)).length = j - 0 := by rw [List.length_take, List.length_drop]; omega
     have hex := extract_mid l 0 j
     obtain ⟨V, hV⟩ : ∃ V, (l.drop 0).take (j - 0) = V := ⟨_, rfl⟩
     rw [hV] at tw hex hWl
     rw [List.drop_zero] at tw dw
     have TW := hide tw; have DW := hide dw
     clear tw dw hV hWl HL
     have HFIN : Hid (RrP (readR (D + 1)) l w (.returned (.tuple #[.agg #[.int .i64 1, .int .i64 (0), .string ⟨V.toArray⟩, .slice none 0 0], .int .i64 (j : Int)])) (put4 w4 w.heap.size 1 (0) ⟨V.toArray⟩ (.slice none 0 0))) :=
      ⟨put4_below HB1.out (Nat.le_refl _) _ _ _ _, .inr ⟨.mk 1 (0) ⟨V.toArray⟩ [], exC 1 (0) ⟨V.toArray⟩ (.slice none 0 0), j, 1, rfl, ExF.leaf _ _ _ _ _, hj, by rw [readR_name HP1.out HP2.out HP3.out, TW.out, DW.out]⟩⟩
     obtain ⟨e0, e1, e2, e3, hf⟩ := HX.out.cells
     have f0 := hf 0; have f1 := hf 1; have f2 := hf 2; have f3 := hf 3
     clear g0
     obtain ⟨g0, g1, g2, g3, -⟩ := (ExB.put HX.out 1 (0) ⟨V.toArray⟩ (.slice none 0 0)).cells
     clear hf
     go_wp2
     exact bodyPost_ret (v := .tuple #[.agg #[.int .i64 1, .int .i64 (0), .string ⟨V.toArray⟩, .slice none 0 0], .int .i64 (j : Int)]) (by simp [results, Tryd.results23, go_sem, g0, g1, g2, g3]) rfl HFIN.out
   | false =>
    cases c3 : decide ((48 : Int) ≤ (b.toNat : Int)) with
    | true =>
     cases c4 : decide ((b.toNat : Int) ≤ 57) with
     | true =>
      have HL2 : Hid (LtR l 0 (j + 1)) := HL.out.step haj hget (by rw [inRef_of c1 rfl c3 c4]; rfl)
      clear HL hget
      go_wp2
      go_roundw
      case rel => exact ⟨j + 1, by omega, by omega, by go_num, HL2, by first | rfl | trivial⟩
      case measure => simp [intOf]; omega
     | false =>
      obtain ⟨tw, dw⟩ := HL.out.fin (fun b' hb' => by rw [hget] at hb'; obtain rfl := Option.some.inj hb'; rw [inRef_of c1 rfl c3 c4]; rfl)
      have hWl : ((l.drop 0).take (j - 0)).length = j - 0 := by rw [List.length_take, List.length_drop]; omega
      have hex := extract_mid l 0 j
      obtain ⟨V, hV⟩ : ∃ V, (l.drop 0).take (j - 0) = V := ⟨_, rfl⟩
      rw [hV] at tw hex hWl
      rw [List.drop_zero] at tw dw
      have TW := hide tw; have DW := hide dw
      clear tw dw hV hWl HL
      have HFIN : Hid (RrP (readR (D + 1)) l w (.returned (.tuple #[.agg #[.int .i64 1, .int .i64 (0), .string ⟨V.toArray⟩, .slice none 0 0], .int .i64 (j : Int)])) (put4 w4 w.heap.size 1 (0) ⟨V.toArray⟩ (.slice none 0 0))) :=
       ⟨put4_below HB1.out (Nat.le_refl _) _ _ _ _, .inr ⟨.mk 1 (0) ⟨V.toArray⟩ [], exC 1 (0) ⟨V.toArray⟩ (.slice none 0 0), j, 1, rfl, ExF.leaf _ _ _ _ _, hj, by rw [readR_name HP1.out HP2.out HP3.out, TW.out, DW.out]⟩⟩
      obtain ⟨e0, e1, e2, e3, hf⟩ := HX.out.cells
      have f0 := hf 0; have f1 := hf 1; have f2 := hf 2; have f3 := hf 3
      clear g0
      obtain ⟨g0, g1, g2, g3, -⟩ := (ExB.put HX.out 1 (0) ⟨V.toArray⟩ (.slice none 0 0)).cells
      clear hf
      go_wp2
      exact bodyPost_ret (v := .tuple #[.agg #[.int .i64 1, .int .i64 (0), .string ⟨V.toArray⟩, .slice none 0 0], .int .i64 (j : Int)]) (by simp [results, Tryd.results23, go_sem, g0, g1, g2, g3]) rfl HFIN.out
    | false =>
     obtain ⟨tw, dw⟩ := HL.out.fin (fun b' hb' => by rw [hget] at hb'; obtain rfl := Option.some.inj hb'; rw [inRef_of c1 rfl c3 rfl]; rfl)
     have hWl : ((l.drop 0).take (j - 0)).length = j - 0 := by rw [List.length_take, List.length_drop]; omega
     have hex := extract_mid l 0 j
     obtain ⟨V, hV⟩ : ∃ V, (l.drop 0).take (j - 0) = V := ⟨_, rfl⟩
     rw [hV] at tw hex hWl
     rw [List.drop_zero] at tw dw
     have TW := hide tw; have DW := hide dw
     clear tw dw hV hWl HL
     have HFIN : Hid (RrP (readR (D + 1)) l w (.returned (.tuple #[.agg #[.int .i64 1, .int .i64 (0), .string ⟨V.toArray⟩, .slice none 0 0], .int .i64 (j : Int)])) (put4 w4 w.heap.size 1 (0) ⟨V.toArray⟩ (.slice none 0 0))) :=
      ⟨put4_below HB1.out (Nat.le_refl _) _ _ _ _, .inr ⟨.mk 1 (0) ⟨V.toArray⟩ [], exC 1 (0) ⟨V.toArray⟩ (.slice none 0 0), j, 1, rfl, ExF.leaf _ _ _ _ _, hj, by rw [readR_name HP1.out HP2.out HP3.out, TW.out, DW.out]⟩⟩
     obtain ⟨e0, e1, e2, e3, hf⟩ := HX.out.cells
     have f0 := hf 0; have f1 := hf 1; have f2 := hf 2; have f3 := hf 3
     clear g0
     obtain ⟨g0, g1, g2, g3, -⟩ := (ExB.put HX.out 1 (0) ⟨V.toArray⟩ (.slice none 0 0)).cells
     clear hf
     go_wp2
     exact bodyPost_ret (v := .tuple #[.agg #[.int .i64 1, .int .i64 (0), .string ⟨V.toArray⟩, .slice none 0 0], .int .i64 (j : Int)]) (by simp [results, Tryd.results23, go_sem, g0, g1, g2, g3]) rfl HFIN.out
  ·have hjd : decide ((j : Int) < (l.length : Int)) = false := decide_eq_false (by omega)
   obtain ⟨tw, dw⟩ := HL.out.fin (fun b' hb' => absurd (List.getElem?_eq_some_iff.1 hb').1 hjl)
   have hWl : ((l.drop 0).take (j - 0)).length = j - 0 := by rw [List.length_take, List.length_drop]; omega
   have hex := extract_mid l 0 j
   obtain ⟨V, hV⟩ : ∃ V, (l.drop 0).take (j - 0) = V := ⟨_, rfl⟩
   rw [hV] at tw hex hWl
   rw [List.drop_zero] at tw dw
   have TW := hide tw; have DW := hide dw
   clear tw dw hV hWl HL
   have HFIN : Hid (RrP (readR (D + 1)) l w (.returned (.tuple #[.agg #[.int .i64 1, .int .i64 (0), .string ⟨V.toArray⟩, .slice none 0 0], .int .i64 (j : Int)])) (put4 w4 w.heap.size 1 (0) ⟨V.toArray⟩ (.slice none 0 0))) :=
    ⟨put4_below HB1.out (Nat.le_refl _) _ _ _ _, .inr ⟨.mk 1 (0) ⟨V.toArray⟩ [], exC 1 (0) ⟨V.toArray⟩ (.slice none 0 0), j, 1, rfl, ExF.leaf _ _ _ _ _, hj, by rw [readR_name HP1.out HP2.out HP3.out, TW.out, DW.out]⟩⟩
   obtain ⟨e0, e1, e2, e3, hf⟩ := HX.out.cells
   have f0 := hf 0; have f1 := hf 1; have f2 := hf 2; have f3 := hf 3
   clear g0
   obtain ⟨g0, g1, g2, g3, -⟩ := (ExB.put HX.out 1 (0) ⟨V.toArray⟩ (.slice none 0 0)).cells
   clear hf
   go_wp2
   exact bodyPost_ret (v := .tuple #[.agg #[.int .i64 1, .int .i64 (0), .string ⟨V.toArray⟩, .slice none 0 0], .int .i64 (j : Int)]) (by simp [results, Tryd.results23, go_sem, g0, g1, g2, g3]) rfl HFIN.out

end Go.Proofs.YtanjajjjancggaaDoor

/- The reference: reading an expression; a whole text. -/
namespace Go.Proofs.YtanjajjjancggaaDoor
open Go.RowKit

theorem readExpr_any : ∀ (D dp : Nat) (w : World) (l : List UInt8), dp + D = 7 → l.length ≤ 1000000 → Calls Tryd.prog 23 #[strV l, .int .i64 (dp : Int)] w fun e w' => RrP (readR D) l w e w'
 | 0, dp, w, l, hd, hl => by
  obtain rfl : dp = 7 := by omega
  exact readExpr_deep w l
 | D + 1, dp, w, l, hd, hl => by
  have H := fun (W : World) (m : List UInt8) (hm : m.length ≤ 1000000) => readExpr_any D (dp + 1) W m (by omega) hm
  cases hp1 : Lib.hasPrefix l [40] with
  | true => exact readExpr_two D dp w l hd hl H hp1
  | false =>
   cases hp2 : Lib.hasPrefix l fillP with
   | true => exact readExpr_fill D dp w l hd hl H hp1 hp2
   | false =>
    cases hp3 : Lib.hasPrefix l wholeP with
    | true => exact readExpr_whole D dp w l hd hl H hp1 hp2 hp3
    | false => exact readExpr_name D dp w l hd hl H hp1 hp2 hp3

theorem readR_parts : ∀ (d : Nat) (l r : List UInt8) (x : Ex), readR d l = some (x, r) → partsE x + 1 ≤ 2 ^ (d + 1)
 | 0, l, r, x, h => by rw [readR] at h; cases h
 | d + 1, l, r, x, h => by
  have hp : 2 ≤ 2 ^ (d + 1) := by rw [Nat.pow_succ]; have := Nat.one_le_two_pow (n := d); omega
  rw [Nat.pow_succ]
  rw [readR] at h
  split at h
  ·split at h
   ·cases h
   ·rename_i a r1 ha
    have h1 := readR_parts d _ _ _ ha
    have two : ∀ k : Bool, (match readR d (Lib.trimPrefix r1 (spacedB k)) with
     | none => none
     | some (b, r) => if Lib.hasPrefix r [41] = true then some ((.mk (kindQ k) 0 ⟨#[]⟩ [a, b] : Ex), Lib.trimPrefix r [41]) else none) = some (x, r) → partsE x + 1 ≤ 2 ^ (d + 1) * 2 := by
     intro k h
     split at h
     ·cases h
     ·rename_i b r2 hb
      have h2 := readR_parts d _ _ _ hb
      split at h
      ·obtain ⟨rfl, rfl⟩ := Prod.mk.inj (Option.some.inj h)
       rw [partsE, partsL, partsL, partsL]
       omega
      ·cases h
    split at h
    ·exact two true h
    ·split at h
     ·exact two false h
     ·cases h
  ·split at h
   ·split at h
    ·cases h
    ·rename_i a r1 ha
     have h1 := readR_parts d _ _ _ ha
     obtain ⟨rfl, rfl⟩ := Prod.mk.inj (Option.some.inj h)
     rw [partsE, partsL, partsL]
     omega
   ·split at h
    ·split at h
     ·split at h
      ·obtain ⟨rfl, rfl⟩ := Prod.mk.inj (Option.some.inj h)
       rw [partsE, partsL]
       omega
      ·cases h
     ·cases h
    ·obtain ⟨rfl, rfl⟩ := Prod.mk.inj (Option.some.inj h)
     rw [partsE, partsL]
     omega

def RaP (l : List UInt8) (w : World) (e : Ending) (w' : World) : Prop :=
 Below w.heap.size w w' ∧ ((e = .returned (.tuple #[.agg #[.int .i64 0, .int .i64 0, .string ⟨#[]⟩, .slice none 0 0], .int .i64 5]) ∧ ∀ q : Qx, q.ok → q.deep ≤ 6 → faultE q.ex = 0 → q.text ≠ l) ∨
  ∃ (q : Qx) (cs : List Value), q.ok ∧ q.deep ≤ 6 ∧ faultE q.ex = 0 ∧ q.text = l ∧ e = .returned (.tuple #[.agg cs.toArray, .int .i64 0]) ∧ ExV w' q.ex cs)

set_option linter.unusedSimpArgs false in
set_option linter.unusedVariables false in
set_option maxRecDepth 100000 in
set_option maxHeartbeats 6400000 in
theorem readWhole_any (w : World) (l : List UInt8) (hl : l.length ≤ 1000000) : Calls Tryd.prog 13 #[strV l] w fun e w' => RaP l w e w' := by
 have HX := hide (ExB.new w 0 0 ⟨#[]⟩ (.slice none 0 0)); have HB1 := hide (alloc_below w (.cells #[.int .i64 0, .int .i64 0, .string ⟨#[]⟩, .slice none 0 0] 24))
 obtain ⟨W1, hW1⟩ : ∃ W1, w.alloc (.cells #[.int .i64 0, .int .i64 0, .string ⟨#[]⟩, .slice none 0 0] 24) = W1 := ⟨_, rfl⟩
 have hsz1 : W1.heap.size = w.heap.size + 1 := by rw [← hW1]; simp
 rw [hW1] at HX HB1
 have HC := hide (show Calls Tryd.prog 23 #[strV l, .int .i64 1] W1 fun e w' => RrP (readR 6) l W1 e w' from readExpr_any 6 1 W1 l rfl hl)
 have HSAY := hide (readR_says l)
 go_enter Tryd.func13, Tryd.ntmps13
 go_wp2_with fail
 refine HC.out.mono ?_
 rintro e w2 ⟨hb2, hres⟩
 rcases hres with ⟨hn, rfl⟩ | ⟨x, cs, n, dd, rfl, hx, hnl, hrd⟩
 ·have hb3 := hb2.trans ((alloc_below w2 (.cells #[.int .i64 0, .int .i64 0, .string ⟨#[]⟩, .slice none 0 0] 24)).mono hb2.size)
  have HX3 := hide (HX.out.later hb3); have HB3 := hide (HB1.out.trans (hb3.mono HB1.out.size))
  have hs := HSAY.out
  rw [hn] at hs
  have HS := hide hs
  have gn : ((-1 : Int) == (l.length : Int)) = false := beq_eq_false_iff_ne.2 (by omega)
  clear hb2 hb3 hn hs HX HB1
  have HFIN : Hid (RaP l w (.returned (.tuple #[.agg #[.int .i64 0, .int .i64 0, .string ⟨#[]⟩, .slice none 0 0], .int .i64 5])) (put4 (w2.alloc (.cells #[.int .i64 0, .int .i64 0, .string ⟨#[]⟩, .slice none 0 0] 24)) w.heap.size 0 0 ⟨#[]⟩ (.slice none 0 0))) :=
   ⟨put4_below (HB3.out) (Nat.le_refl _) _ _ _ _, .inl ⟨rfl, fun q h1 h2 _ => HS.out q h1 h2⟩⟩
  obtain ⟨c0, c1, c2, c3, hf⟩ := (HX3.out).cells
  have f0 := hf 0; have f1 := hf 1; have f2 := hf 2; have f3 := hf 3
  obtain ⟨g0, g1, g2, g3, -⟩ := (ExB.put (HX3.out) 0 0 ⟨#[]⟩ (.slice none 0 0)).cells
  clear hf
  go_wp2
  exact bodyPost_ret (v := .tuple #[.agg #[.int .i64 0, .int .i64 0, .string ⟨#[]⟩, .slice none 0 0], .int .i64 5]) (by simp [results, Tryd.results13, go_sem, g0, g1, g2, g3]) rfl HFIN.out
 ·obtain ⟨ka, na, sa, oa, ma, cap, rfl⟩ := hx.agg
  have hb23 := alloc_below w2 (.cells #[.int .i64 ka, .int .i64 na, .string sa, .slice oa ma cap] 24)
  have HY3 := hide (ExB.new w2 ka na sa (.slice oa ma cap))
  have HF3 := hide (hx.later (base' := w.heap.size + 1) (by omega) hb23)
  have hb3 := hb2.trans (hb23.mono hb2.size)
  obtain ⟨W3, hW3⟩ : ∃ W3, w2.alloc (.cells #[.int .i64 ka, .int .i64 na, .string sa, .slice oa ma cap] 24) = W3 := ⟨_, rfl⟩
  rw [hW3] at hb23 HY3 HF3 hb3
  have HX3 := hide (HX.out.later hb3); have HB3 := hide (HB1.out.trans (hb3.mono HB1.out.size))
  have HRD := hide hrd
  clear hb2 hb23 hb3 hx hrd HX HB1
  obtain ⟨y0, y1, y2, y3, -⟩ := HY3.out.cells
  by_cases hn : n = l.length
  ·subst hn
   have hrd := HRD.out
   rw [List.drop_length] at hrd
   have hpx : partsE x + 1 ≤ 128 := readR_parts 6 _ _ _ hrd
   have hs := HSAY.out
   rw [hrd] at hs
   have HS := hide hs
   have HFA := hide (exprFault_any W3 x _ ⟨dd, HF3.out.ex⟩ (by omega))
   clear hrd hs HRD HSAY
   obtain ⟨F, hF⟩ : ∃ F, faultE x = F := ⟨_, rfl⟩
   rw [hF] at HFA
   have HFF := hide hF
   clear hF
   go_wp2_with fail
   refine HFA.out.mono ?_
   rintro e w4 ⟨rfl, hb4⟩
   have HX4 := hide (HX3.out.later hb4); have HB4 := hide (HB3.out.trans (hb4.mono HB3.out.size)); have HF4 := hide (HF3.out.later (Nat.le_refl _) hb4); have HY4 := hide (HY3.out.later hb4)
   clear hb4 HX3 HB3 HF3 HY3 HFA y0 y1 y2 y3
   obtain ⟨y0, y1, y2, y3, -⟩ := HY4.out.cells
   by_cases h0 : F = 0
   ·subst h0
    obtain ⟨q, hq, hq6, hqx, hqt⟩ := HS.out.1 HFF.out
    subst hqx
    have HFIN : Hid (RaP l w (.returned (.tuple #[.agg #[.int .i64 ka, .int .i64 na, .string sa, .slice oa ma cap], .int .i64 0])) (put4 w4 w.heap.size ka na sa (.slice oa ma cap))) :=
     ⟨put4_below HB4.out (Nat.le_refl _) _ _ _ _, .inr ⟨q, exC ka na sa (.slice oa ma cap), hq, hq6, HFF.out, hqt, rfl, dd, (HF4.out.put (by omega) _ (Nat.le_refl _) _ _ _ _).ex⟩⟩
    obtain ⟨c0, c1, c2, c3, hf⟩ := HX4.out.cells
    have f0 := hf 0; have f1 := hf 1; have f2 := hf 2; have f3 := hf 3
    obtain ⟨g0, g1, g2, g3, -⟩ := (HX4.out.put ka na sa (.slice oa ma cap)).cells
    clear hf
    go_wp2
    exact bodyPost_ret (v := .tuple #[.agg #[.int .i64 ka, .int .i64 na, .string sa, .slice oa ma cap], .int .i64 0]) (by simp [results, Tryd.results13, go_sem, g0, g1, g2, g3]) rfl HFIN.out
   ·have g5 : decide ((0 : Int) < (F : Int)) = true := decide_eq_true (by omega)
    have HFIN : Hid (RaP l w (.returned (.tuple #[.agg #[.int .i64 0, .int .i64 0, .string ⟨#[]⟩, .slice none 0 0], .int .i64 5])) (put4 w4 w.heap.size 0 0 ⟨#[]⟩ (.slice none 0 0))) :=
     ⟨put4_below (HB4.out) (Nat.le_refl _) _ _ _ _, .inl ⟨rfl, fun q h1 h2 h3 => HS.out.2 (by rw [HFF.out]; exact h0) q h1 h2 h3⟩⟩
    obtain ⟨c0, c1, c2, c3, hf⟩ := (HX4.out).cells
    have f0 := hf 0; have f1 := hf 1; have f2 := hf 2; have f3 := hf 3
    obtain ⟨g0, g1, g2, g3, -⟩ := (ExB.put (HX4.out) 0 0 ⟨#[]⟩ (.slice none 0 0)).cells
    clear hf
    go_wp2
    exact bodyPost_ret (v := .tuple #[.agg #[.int .i64 0, .int .i64 0, .string ⟨#[]⟩, .slice none 0 0], .int .i64 5]) (by simp [results, Tryd.results13, go_sem, g0, g1, g2, g3]) rfl HFIN.out
  ·have gn : ((n : Int) == (l.length : Int)) = false := beq_eq_false_iff_ne.2 (by omega)
   have hs := HSAY.out
   rw [HRD.out] at hs
   have HS : Hid (∀ q : Qx, q.ok → q.deep ≤ 6 → q.text ≠ l) := by
    cases hd : l.drop n with
    | nil => exact absurd (List.drop_eq_nil_iff.1 hd) (by omega)
    | cons b t => rw [hd] at hs; exact hs
   clear hs
   have HFIN : Hid (RaP l w (.returned (.tuple #[.agg #[.int .i64 0, .int .i64 0, .string ⟨#[]⟩, .slice none 0 0], .int .i64 5])) (put4 W3 w.heap.size 0 0 ⟨#[]⟩ (.slice none 0 0))) :=
    ⟨put4_below (HB3.out) (Nat.le_refl _) _ _ _ _, .inl ⟨rfl, fun q h1 h2 _ => HS.out q h1 h2⟩⟩
   obtain ⟨c0, c1, c2, c3, hf⟩ := (HX3.out).cells
   have f0 := hf 0; have f1 := hf 1; have f2 := hf 2; have f3 := hf 3
   obtain ⟨g0, g1, g2, g3, -⟩ := (ExB.put (HX3.out) 0 0 ⟨#[]⟩ (.slice none 0 0)).cells
   clear hf
   go_wp2
   exact bodyPost_ret (v := .tuple #[.agg #[.int .i64 0, .int .i64 0, .string ⟨#[]⟩, .slice none 0 0], .int .i64 5]) (by simp [results, Tryd.results13, go_sem, g0, g1, g2, g3]) rfl HFIN.out

end Go.Proofs.YtanjajjjancggaaDoor

/- Is it the error of that number? -/
namespace Go.Proofs.YtanjajjjancggaaDoor
open Go.RowKit Limbs

theorem Tryd.asErrno (v : Value) (w : World) : (Instr.typeAssert (.iface 44 v) 29 44 true).run Tryd.prog w = .ok (.tuple #[v, .bool true]) w := by kernel_rfl

set_option maxRecDepth 100000 in
theorem same_errno (n f : Int) (w : World) :
  Calls Tryd.prog 9 #[.iface 44 (.int .i64 n), .int .i64 f] w fun e w' => e = .returned (.bool (decide (0 < f) && n == f)) ∧ w' = w := by
 have has := Tryd.asErrno
 by_cases h1 : 0 < f
 ·have e1 : decide (0 < f) = true := decide_eq_true h1
  go_enter Tryd.func9, Tryd.ntmps9
  go_wp2
  go_ret
  exact ⟨ret_bool (by simp [e1]), rfl⟩
 ·have e1 : decide (0 < f) = false := decide_eq_false h1
  go_enter Tryd.func9, Tryd.ntmps9
  go_wp2
  go_ret
  exact ⟨ret_bool (by simp), rfl⟩

set_option maxRecDepth 100000 in
theorem same_nil (f : Int) (w : World) :
  Calls Tryd.prog 9 #[.nilIface, .int .i64 f] w fun e w' => e = .returned (.bool (f == 0)) ∧ w' = w := by
 go_enter Tryd.func9, Tryd.ntmps9
 go_wp2
 go_ret
 exact ⟨rfl, rfl⟩

theorem same_of (n : Int) (hn : 0 < n) (w : World) : Calls Tryd.prog 9 #[.iface 44 (.int .i64 n), .int .i64 n] w fun e w' => e = .returned (.bool true) ∧ w' = w := by
 refine (same_errno n n w).mono ?_
 rintro e w' ⟨rfl, rfl⟩
 refine ⟨?_, rfl⟩
 rw [decide_eq_true hn, beq_self_eq_true]; rfl

theorem same_zero (w : World) : Calls Tryd.prog 9 #[.nilIface, .int .i64 0] w fun e w' => e = .returned (.bool true) ∧ w' = w := same_nil 0 w

end Go.Proofs.YtanjajjjancggaaDoor

/- A closed fact of expressions. -/
namespace Go.Proofs.YtanjajjjancggaaDoor
open Go.RowKit Limbs

def qK : Qx := .two true (.name ⟨#[97]⟩) (.fill (.name ⟨#[98]⟩))

theorem qK_ok : qK.ok ∧ qK.deep ≤ 6 ∧ faultE qK.ex = 0 := by
 have ha : calledS ⟨#[97]⟩ = true := by
  unfold calledS
  rw [Lib.toList_data]
  decide +kernel
 have hb : calledS ⟨#[98]⟩ = true := by
  unfold calledS
  rw [Lib.toList_data]
  decide +kernel
 have h : qK.ok := ⟨ha, hb⟩
 refine ⟨h, by decide, ?_⟩
 unfold faultE
 rw [show roomE qK.ex 6 20 = 16 from rfl, if_neg (by decide), q_shaped qK h]
 rfl

theorem qK_text : qK.text = [40, 97, 32, 38, 32, 102, 105, 108, 108, 32, 98, 41] := rfl

set_option linter.unusedSimpArgs false in
set_option maxRecDepth 100000 in
set_option maxHeartbeats 3200000 in
theorem asks_any (w : World) (he : ErrQ w) : Calls Tryd.prog 5 #[] w fun e w' => e = .returned (.bool true) ∧ Below w.heap.size w w' := by
 have HA := hide (parse_any w [40, 97, 32, 38, 32, 102, 105, 108, 108, 32, 98, 41] (by decide) he)
 clear he
 go_enter Tryd.func5, Tryd.ntmps5
 go_wp2_with fail
 refine HA.out.mono ?_
 rintro e w2 hps
 obtain ⟨hb2, ac, rfl, hav⟩ := PsP.of_text qK_ok.1 qK_ok.2.1 qK_ok.2.2 (show PsP qK.text w e w2 from hps)
 obtain ⟨k5, n5, z5, o5, m5, cap5, rfl, hk5⟩ := hav.agg
 have hk5' : k5 = 3 := hk5
 subst hk5'
 have hb3 := alloc_below w2 (.cells #[.int .i64 3, .int .i64 n5, .string z5, .slice o5 m5 cap5] 24)
 have HY3 := hide (ExB.new w2 3 n5 z5 (.slice o5 m5 cap5))
 have HV3 := hide (hav.below hb3)
 have HB3 := hide (hb2.trans (hb3.mono hb2.size))
 obtain ⟨W3, hW3⟩ : ∃ W3, w2.alloc (.cells #[.int .i64 3, .int .i64 n5, .string z5, .slice o5 m5 cap5] 24) = W3 := ⟨_, rfl⟩
 rw [hW3] at HY3 HV3 HB3
 clear hps hb2 hav hk5 hb3 HA
 have HTX := hide (text_any W3 qK.ex _ HV3.out)
 obtain ⟨y0, y1, y2, y3, -⟩ := HY3.out.cells
 go_wp2_with fail
 refine HTX.out.mono ?_
 rintro e w4 ⟨hb4, hres⟩
 rcases hres with ⟨hne, -⟩ | ⟨p, hp, hpe, -, -, rfl⟩
 ·exact absurd qK_ok.2.2 hne
 ·obtain rfl := ex_inj hpe
  rw [qK_text]
  have HY4 := hide (HY3.out.later hb4); have HB4 := hide (HB3.out.trans (hb4.mono HB3.out.size))
  clear hp hpe hb4 HTX HY3 HB3 HV3 y0 y1 y2 y3
  obtain ⟨y0, y1, y2, y3, -⟩ := HY4.out.cells
  have HZ := hide (fun W => same_zero W)
  go_wp2_with fail
  refine (HZ.out _).mono ?_
  rintro e w5 ⟨rfl, hw5⟩
  subst hw5
  go_wp2_with fail
  refine (HZ.out _).mono ?_
  rintro e w6 ⟨rfl, hw6⟩
  subst hw6
  go_wp2
  go_ret
  exact ⟨rfl, HB4.out⟩

end Go.Proofs.YtanjajjjancggaaDoor
