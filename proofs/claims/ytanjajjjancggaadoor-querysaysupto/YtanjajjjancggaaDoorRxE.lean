/- The reference on expressions: parts and depth. -/
import Derived.Test.YtanjajjjancggaaDoorRxB

namespace Go.Proofs.YtanjajjjancggaaDoor
open Go.RowKit

set_option linter.unusedSimpArgs false in
set_option maxRecDepth 100000 in
set_option maxHeartbeats 1600000 in
theorem parted_any : ∀ (d : Nat) (w : World) (e : Ex) (cs : List Value), ExD w d e cs → partsE e ≤ 1048576 →
  Calls Tryd.prog 16 #[.agg cs.toArray] w fun e' w' => e' = .returned (.tuple #[.int .i64 (partsE e : Nat), .int .i64 (deepE e : Nat)]) ∧ Below w.heap.size w w'
 | 0, _, _, _, h => h.elim
 | d + 1, w, .mk k n s a, cs, h => by
  intro hpar
  have hdp := deep_parts (.mk k n s a)
  have IH := hide (fun W x ys hx hp => parted_any d W x ys hx hp)
  obtain ⟨d', o, cap, e, rfl, hmax, hat⟩ := h.shape
  obtain rfl : d = d' := by omega
  have HAT := hide hat
  obtain ⟨N, hN⟩ : ∃ N, a.length = N := ⟨_, rfl⟩
  rw [partsE] at hpar ⊢
  rw [partsE, deepE] at hdp
  rw [deepE]
  rw [hN] at hmax ⊢
  have HN := hide hN
  have HB := hide (alloc_below w (.cells #[.int .i64 k, .int .i64 n, .string s, .slice o N cap] 24))
  have HX := hide (ExB.new w k n s (.slice o N cap))
  obtain ⟨z0, z1, z2, z3, -⟩ := HX.out.cells
  obtain ⟨P, hP⟩ : ∃ P, partsL a = P := ⟨_, rfl⟩
  obtain ⟨Q, hQ⟩ : ∃ Q, deepL a = Q := ⟨_, rfl⟩
  have HI : Hid (1 + partsL (a.drop 0) = 1 + P ∧ max 0 (deepL (a.drop 0)) = Q) := ⟨by rw [List.drop_zero, hP], by rw [List.drop_zero, hQ, Nat.zero_max]⟩
  rw [hP, hQ] at hdp
  rw [hP] at hpar ⊢
  rw [hQ]
  clear h hat e hN hP hQ
  go_enter Tryd.func16, Tryd.ntmps16
  go_wp2
  go_loopw [4, 5, 6] (fun p q x wr => ∃ j y z : Nat, j ≤ N ∧ x = .int .i64 j ∧ p = .int .i64 (y : Nat) ∧ q = .int .i64 (z : Nat) ∧ Hid (y + partsL (a.drop j) = 1 + P ∧ max z (deepL (a.drop j)) = Q) ∧ Hid (ExB wr w.heap.size k n s (.slice o N cap)) ∧ Hid (Below w.heap.size w wr)) (fun _ _ x _ => N - (intOf x).toNat)
  case atStart => exact ⟨0, 1, 0, Nat.zero_le _, rfl, rfl, rfl, HI, HX, HB⟩
  case round =>
   clear HX HB HI z0 z1 z2 z3
   obtain ⟨j, y, z, hj, rfl, rfl, rfl, HI, HX, HB⟩ := hrel
   obtain ⟨-, -, -, z3, -⟩ := HX.out.cells
   by_cases hjl : j < N
   ·have gj : decide ((j : Int) < (N : Int)) = true := decide_eq_true (by omega)
    obtain ⟨x, hget⟩ : ∃ x, a[j]? = some x := ⟨_, List.getElem?_eq_getElem (by rw [HN.out]; exact hjl)⟩
    obtain ⟨b, off, ys, ka, ma, sa, va, rfl, hlt, hys, hx, c0, c1, c2, c3, oa, na, ca, rfl⟩ := HAT.out j _ hget
    have p0 := (HB.out.cell (p := ⟨b, off + j * 4, none⟩) hlt).trans c0
    have p1 := (HB.out.cell (p := ⟨b, off + j * 4 + 1, none⟩) hlt).trans c1
    have p2 := (HB.out.cell (p := ⟨b, off + j * 4 + 2, none⟩) hlt).trans c2
    have p3 := (HB.out.cell (p := ⟨b, off + j * 4 + 3, none⟩) hlt).trans c3
    subst hys
    have hi := HI.out
    rw [drop_at hget, partsL, deepL] at hi
    have hxd := deep_parts x
    have HC := hide (IH.out wr x _ (hx.below HB.out) (by omega))
    obtain ⟨px, hpx⟩ : ∃ p, partsE x = p := ⟨_, rfl⟩
    obtain ⟨dx, hdx⟩ : ∃ p, deepE x = p := ⟨_, rfl⟩
    rw [hpx, hdx] at HC
    rw [hpx] at hi hxd
    rw [hdx] at hi hxd
    have b1 : px ≤ 1048576 := by omega
    have b2 : y ≤ 1048576 := by omega
    have HI2 : Hid (y + px + partsL (a.drop (j + 1)) = 1 + P ∧ max (max z dx) (deepL (a.drop (j + 1))) = Q) := ⟨by omega, by omega⟩
    have b3 : z ≤ 1048576 := by omega
    have b4 : dx ≤ 1048576 := by omega
    clear hx c0 c1 c2 c3 hget hi HI hpx hdx
    go_wp2_with fail
    refine HC.out.mono ?_
    rintro e w3 ⟨rfl, hb3⟩
    have HX3 := hide (HX.out.later hb3); have HB3 := hide (HB.out.trans (hb3.mono HB.out.size))
    clear hb3 HC HX HB p0 p1 p2 p3 z3
    go_wp2
    go_roundw
    case rel => exact ⟨j + 1, y + px, max z dx, by omega, by go_num, by go_num, by go_num, HI2, HX3, HB3⟩
    case measure => simp [intOf]; omega
   ·have gj : decide ((j : Int) < (N : Int)) = false := decide_eq_false (by omega)
    obtain rfl : j = N := by omega
    have hi := HI.out
    rw [List.drop_of_length_le (by rw [HN.out]; exact Nat.le_refl _), partsL, deepL] at hi
    obtain rfl : y = 1 + P := by omega
    obtain rfl : z = Q := by omega
    clear hi HI
    go_wp2
    have HE : Hid ((IntKind.i64.wrap ((z : Int) + 1)) = ((z + 1 : Nat) : Int)) := by show _ = _; rw [IntKind.wrap_i64]; omega
    exact bodyPost_ret (v := .tuple #[.int .i64 ((1 + P : Nat) : Int), .int .i64 ((z + 1 : Nat) : Int)]) (by simp [results, Tryd.results16, go_sem, HE.out]) rfl ⟨rfl, HB.out⟩

end Go.Proofs.YtanjajjjancggaaDoor

/- The reference on expressions: formed, the fault. -/
namespace Go.Proofs.YtanjajjjancggaaDoor
open Go.RowKit

set_option linter.unusedSimpArgs false in
set_option maxRecDepth 100000 in
set_option maxHeartbeats 3200000 in
theorem formed_any : ∀ (d : Nat) (w : World) (e : Ex) (cs : List Value), ExD w d e cs →
  Calls Tryd.prog 17 #[.agg cs.toArray] w fun e' w' => e' = .returned (.bool (shapedE e)) ∧ Below w.heap.size w w'
 | 0, _, _, _, h => h.elim
 | d + 1, w, .mk k n s a, cs, h => by
  have IH := hide (fun W x ys hx => formed_any d W x ys hx)
  obtain ⟨d', o, cap, e, rfl, hmax, hat⟩ := h.shape
  obtain rfl : d = d' := by omega
  have HAT := hide hat
  obtain ⟨N, hN⟩ : ∃ N, a.length = N := ⟨_, rfl⟩
  rw [shapedE, hN]
  rw [hN] at hmax
  have HN := hide hN
  have HB := hide (alloc_below w (.cells #[.int .i64 k, .int .i64 n, .string s, .slice o N cap] 24))
  have HX := hide (ExB.new w k n s (.slice o N cap))
  obtain ⟨z0, z1, z2, z3, -⟩ := HX.out.cells
  clear h hat e hN
  obtain ⟨U, hU⟩ : ∃ U, usedE k n s N = U := ⟨_, rfl⟩
  have HU := hide hU
  obtain ⟨R, hR0⟩ : ∃ R, shapedL a = R := ⟨_, rfl⟩
  have HR : Hid (shapedL (a.drop 0) = R) := hR0
  have HNM := hide (nameR_any s)
  rw [hU, hR0]
  clear hU hR0
  go_enter Tryd.func17, Tryd.ntmps17
  go_wp2
  go_loopw [3] (fun x wr => ∃ j : Nat, j ≤ N ∧ x = .int .i64 j ∧ Hid (shapedL (a.drop j) = R) ∧ Hid (ExB wr w.heap.size k n s (.slice o N cap)) ∧ Hid (Below w.heap.size w wr)) (fun x _ => N - (intOf x).toNat)
  case atStart => exact ⟨0, Nat.zero_le _, rfl, HR, HX, HB⟩
  case round =>
   clear HX HB HR z0 z1 z2 z3
   obtain ⟨j, hj, rfl, HR, HX, HB⟩ := hrel
   obtain ⟨z0, z1, z2, z3, -⟩ := HX.out.cells
   by_cases hjl : j < N
   ·have gj : decide ((j : Int) < (N : Int)) = true := decide_eq_true (by omega)
    obtain ⟨x, hget⟩ : ∃ x, a[j]? = some x := ⟨_, List.getElem?_eq_getElem (by rw [HN.out]; exact hjl)⟩
    obtain ⟨b, off, ys, ka, ma, sa, va, rfl, hlt, hys, hx, c0, c1, c2, c3, oa, na, ca, rfl⟩ := HAT.out j _ hget
    have p0 := (HB.out.cell (p := ⟨b, off + j * 4, none⟩) hlt).trans c0
    have p1 := (HB.out.cell (p := ⟨b, off + j * 4 + 1, none⟩) hlt).trans c1
    have p2 := (HB.out.cell (p := ⟨b, off + j * 4 + 2, none⟩) hlt).trans c2
    have p3 := (HB.out.cell (p := ⟨b, off + j * 4 + 3, none⟩) hlt).trans c3
    subst hys
    have hd := HR.out
    rw [drop_at hget, shapedL] at hd
    have HC := hide (IH.out wr x _ (hx.below HB.out))
    have HD := hide hd
    clear hx hd c0 c1 c2 c3 hget HR HNM HU
    generalize shapedE x = r at *
    go_wp2_with fail
    refine HC.out.mono ?_
    rintro e w3 ⟨rfl, hb3⟩
    have HX3 := hide (HX.out.later hb3); have HB3 := hide (HB.out.trans (hb3.mono HB.out.size))
    clear hb3 HC HX HB p0 p1 p2 p3 z0 z1 z2 z3
    cases r with
    | false =>
     have hr := hide (show R = false by rw [← HD.out]; rfl)
     go_wp2
     go_ret
     exact ⟨by rw [hr.out, Bool.and_false]; rfl, HB3.out⟩
    | true =>
     have HR3 : Hid (shapedL (a.drop (j + 1)) = R) := by show _ = _; rw [← HD.out, Bool.true_and]
     go_wp2
     go_roundw
     case rel => exact ⟨j + 1, by omega, by go_num, HR3, HX3, HB3⟩
     case measure => simp [intOf]; omega
   ·have gj : decide ((j : Int) < (N : Int)) = false := decide_eq_false (by omega)
    obtain rfl : j = N := by omega
    have hr := HR.out
    rw [List.drop_of_length_le (by rw [HN.out]; exact Nat.le_refl _), shapedL] at hr
    have hr' := hide hr
    have HC := hide (HNM.out wr)
    have hu := HU.out
    clear hr HR HAT IH HU HNM
    unfold usedE calledS at hu
    generalize nmOk s = nm at *
    have HU := hide hu
    clear hu
    go_wp2_with fail
    refine HC.out.mono ?_
    rintro e w3 ⟨rfl, rfl⟩
    have hu := HU.out
    clear HU HC z0 z1 z2 z3
    obtain ⟨z0, z1, z2, z3, -⟩ := HX.out.cells
    by_cases k1 : k = 1
    ·subst k1
     rw [if_pos rfl] at hu
     have gm : ((j : Int) == 0) = (j == 0) := by
      by_cases h : j = 0
      ·subst h; rfl
      ·rw [beq_eq_false_iff_ne.2 h, beq_eq_false_iff_ne.2 (show (j : Int) ≠ 0 by omega)]
     cases nm with
     | false =>
      have HU := hide hu
      clear hu
      go_wp2
      go_ret
      exact ⟨by rw [← HU.out, ← hr'.out]; rfl, HB.out⟩
     | true =>
      cases hf : (s.toList == [102, 105, 108, 108]) with
      | true =>
       rw [hf] at hu
       have HU := hide hu
       clear hu
       go_wp2
       go_ret
       exact ⟨by rw [← HU.out, ← hr'.out]; rfl, HB.out⟩
      | false =>
       rw [hf] at hu
       cases hw : (s.toList == [119, 104, 111, 108, 101]) with
       | true =>
        rw [hw] at hu
        have HU := hide hu
        clear hu
        go_wp2
        go_ret
        exact ⟨by rw [← HU.out, ← hr'.out]; rfl, HB.out⟩
       | false =>
        rw [hw] at hu
        cases bn : (n == 0) <;> rw [bn] at hu <;> cases hm : (j == 0) <;> rw [hm] at gm hu <;>
        (have HU := hide hu
         clear hu
         go_wp2
         go_ret
         exact ⟨by rw [← HU.out, ← hr'.out]; rfl, HB.out⟩)
    rw [if_neg k1] at hu
    have g1 : (k == 1) = false := beq_eq_false_iff_ne.2 k1
    cases hs : s.toList.isEmpty with
    | false =>
     rw [hs] at hu
     by_cases k2 : k = 2
     ·subst k2
      have HU := hide hu
      clear hu
      go_wp2
      go_ret
      exact ⟨by rw [← HU.out, ← hr'.out]; rfl, HB.out⟩
     by_cases k3 : k = 3
     ·subst k3
      have HU := hide hu
      clear hu
      go_wp2
      go_ret
      exact ⟨by rw [← HU.out, ← hr'.out]; rfl, HB.out⟩
     by_cases k4 : k = 4
     ·subst k4
      have HU := hide hu
      clear hu
      go_wp2
      go_ret
      exact ⟨by rw [← HU.out, ← hr'.out]; rfl, HB.out⟩
     by_cases k5 : k = 5
     ·subst k5
      have HU := hide hu
      clear hu
      go_wp2
      go_ret
      exact ⟨by rw [← HU.out, ← hr'.out]; rfl, HB.out⟩
     have g2 : (k == 2) = false := beq_eq_false_iff_ne.2 k2
     have g3 : (k == 3) = false := beq_eq_false_iff_ne.2 k3
     have g4 : (k == 4) = false := beq_eq_false_iff_ne.2 k4
     have g5 : (k == 5) = false := beq_eq_false_iff_ne.2 k5
     have hk : ¬ (k = 2 ∨ k = 3) := fun h => h.elim k2 k3
     rw [if_neg hk, if_neg k4, if_neg k5] at hu
     have HU := hide hu
     clear hu
     go_wp2
     go_ret
     exact ⟨by rw [← HU.out, ← hr'.out]; rfl, HB.out⟩
    | true =>
     rw [hs] at hu
     by_cases k2 : k = 2 ∨ k = 3
     ·rw [if_pos k2] at hu
      have gm : ((j : Int) == 2) = (j == 2) := by
       by_cases h : j = 2
       ·subst h; rfl
       ·rw [beq_eq_false_iff_ne.2 h, beq_eq_false_iff_ne.2 (show (j : Int) ≠ 2 by omega)]
      cases bn : (n == 0) <;> rw [bn] at hu <;> cases hm : (j == 2) <;> rw [hm] at gm hu <;> rcases k2 with rfl | rfl <;>
      (have HU := hide hu
       clear hu
       go_wp2
       go_ret
       exact ⟨by rw [← HU.out, ← hr'.out]; rfl, HB.out⟩)
     rw [if_neg k2] at hu
     have g2 : (k == 2) = false := beq_eq_false_iff_ne.2 (fun h => k2 (.inl h))
     have g3 : (k == 3) = false := beq_eq_false_iff_ne.2 (fun h => k2 (.inr h))
     clear k2
     by_cases k4 : k = 4
     ·subst k4
      rw [if_pos rfl] at hu
      have gm : ((j : Int) == 1) = (j == 1) := by
       by_cases h : j = 1
       ·subst h; rfl
       ·rw [beq_eq_false_iff_ne.2 h, beq_eq_false_iff_ne.2 (show (j : Int) ≠ 1 by omega)]
      cases bn : (n == 0) <;> rw [bn] at hu <;> cases hm : (j == 1) <;> rw [hm] at gm hu <;>
      (have HU := hide hu
       clear hu
       go_wp2
       go_ret
       exact ⟨by rw [← HU.out, ← hr'.out]; rfl, HB.out⟩)
     rw [if_neg k4] at hu
     have g4 : (k == 4) = false := beq_eq_false_iff_ne.2 k4
     by_cases k5 : k = 5
     ·subst k5
      rw [if_pos rfl] at hu
      have gm : ((j : Int) == 0) = (j == 0) := by
       by_cases h : j = 0
       ·subst h; rfl
       ·rw [beq_eq_false_iff_ne.2 h, beq_eq_false_iff_ne.2 (show (j : Int) ≠ 0 by omega)]
      cases hn1 : decide (1 ≤ n) <;> rw [hn1] at hu <;> cases hn2 : decide (n ≤ 4) <;> rw [hn2] at hu <;> cases hm : (j == 0) <;> rw [hm] at gm hu <;>
      (have HU := hide hu
       clear hu
       go_wp2
       go_ret
       exact ⟨by rw [← HU.out, ← hr'.out]; rfl, HB.out⟩)
     rw [if_neg k5] at hu
     have g5 : (k == 5) = false := beq_eq_false_iff_ne.2 k5
     have HU := hide hu
     clear hu
     go_wp2
     go_ret
     exact ⟨by rw [← HU.out, ← hr'.out]; rfl, HB.out⟩

end Go.Proofs.YtanjajjjancggaaDoor

/- The reference on expressions: the fault. -/
namespace Go.Proofs.YtanjajjjancggaaDoor
open Go.RowKit

set_option linter.unusedSimpArgs false in
set_option maxRecDepth 100000 in
set_option maxHeartbeats 1600000 in
theorem exprFault_any (w : World) (e : Ex) (cs : List Value) (h : ExV w e cs) (hp : partsE e ≤ 1048576) :
  Calls Tryd.prog 7 #[.agg cs.toArray] w fun e' w' => e' = .returned (.int .i64 (faultE e : Nat)) ∧ Below w.heap.size w w' := by
 obtain ⟨d, h⟩ := h
 have hfi := fault_is e
 have hdp := deep_parts e
 obtain ⟨F, hF⟩ : ∃ F, faultE e = F := ⟨_, rfl⟩
 obtain ⟨P, hP⟩ : ∃ P, partsE e = P := ⟨_, rfl⟩
 obtain ⟨D, hD⟩ : ∃ P, deepE e = P := ⟨_, rfl⟩
 obtain ⟨S, hS⟩ : ∃ P, shapedE e = P := ⟨_, rfl⟩
 have hpa := fun W (hb : Below w.heap.size w W) => parted_any d W e cs (h.below hb) (by omega)
 have hfo := fun W (hb : Below w.heap.size w W) => formed_any d W e cs (h.below hb)
 rw [hF]
 rw [hP, hD] at hpa
 rw [hS] at hfo
 rw [hF, hP, hD, hS] at hfi
 rw [hP] at hp
 rw [hP, hD] at hdp
 clear hF hP hD hS
 obtain ⟨k, n, s, a⟩ := e
 obtain ⟨o, cap, rfl⟩ := h.agg
 obtain ⟨N, hN⟩ : ∃ N, a.length = N := ⟨_, rfl⟩
 rw [hN] at hpa hfo ⊢
 have hb1 := alloc_below w (.cells #[.int .i64 k, .int .i64 n, .string s, .slice o N cap] 24)
 have HX := hide (ExB.new w k n s (.slice o N cap))
 have HPA := hide (hpa _ hb1)
 have HFO := hide hfo
 have HB := hide hb1
 have HFI := hide hfi
 obtain ⟨z0, z1, z2, z3, -⟩ := HX.out.cells
 clear h hpa hfo hb1 hfi hN
 have hpb : (P : Int) ≤ 1048576 := by omega
 go_enter Tryd.func7, Tryd.ntmps7
 go_wp2_with fail
 refine HPA.out.mono ?_
 rintro e w2 ⟨rfl, hb2⟩
 have HX2 := hide (HX.out.later hb2); have HB2 := hide (HB.out.trans (hb2.mono HB.out.size))
 clear hb2 HX HB HPA z0 z1 z2 z3
 obtain ⟨z0, z1, z2, z3, -⟩ := HX2.out.cells
 by_cases h1 : 20 < P
 ·have g1 : decide ((20 : Int) < (P : Int)) = true := decide_eq_true (by omega)
  have hf := HFI.out
  rw [if_pos (.inl h1)] at hf
  subst hf
  go_wp2
  go_ret
  exact ⟨rfl, HB2.out⟩
 have g1 : decide ((20 : Int) < (P : Int)) = false := decide_eq_false (by omega)
 by_cases h2 : 6 < D
 ·have g2 : decide ((6 : Int) < (D : Int)) = true := decide_eq_true (by omega)
  have hf := HFI.out
  rw [if_pos (.inr h2)] at hf
  subst hf
  go_wp2
  go_ret
  exact ⟨rfl, HB2.out⟩
 have g2 : decide ((6 : Int) < (D : Int)) = false := decide_eq_false (by omega)
 have hf := HFI.out
 rw [if_neg (fun h => h.elim h1 h2)] at hf
 have HC := hide (HFO.out w2 HB2.out)
 have HF := hide hf
 clear hf HFI HFO
 go_wp2_with fail
 refine HC.out.mono ?_
 rintro e w3 ⟨rfl, hb3⟩
 have HB3 := hide (HB2.out.trans (hb3.mono HB2.out.size))
 clear hb3 HX2 HB2 HC z0 z1 z2 z3
 have hf := HF.out
 clear HF
 cases S with
 | true =>
  rw [if_pos rfl] at hf
  subst hf
  go_wp2
  go_ret
  exact ⟨rfl, HB3.out⟩
 | false =>
  rw [if_neg (by decide)] at hf
  subst hf
  go_wp2
  go_ret
  exact ⟨rfl, HB3.out⟩

end Go.Proofs.YtanjajjjancggaaDoor
