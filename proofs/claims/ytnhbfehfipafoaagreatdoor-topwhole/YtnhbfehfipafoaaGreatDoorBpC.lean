/- pack.Op: an operation as bytes. -/
import Derived.Test.YtnhbfehfipafoaaGreatDoorUpP
import Derived.Test.YtnhbfehfipafoaaGreatDoorBpZ
namespace Go.Proofs.YtnhbfehfipafoaaGreatDoor
open Go.RowKit

theorem getD_at {l : List Int} {k : Nat} (h : k < l.length) : l.getD k 0 = l[k] := by rw [List.getD_eq_getElem?_getD, List.getElem?_eq_getElem h]; rfl

theorem shapeB_few {o : OpV} (h : shapeB o = true) : o.name.size ≤ 8 ∧ o.v.length ≤ 4 := by
 unfold shapeB at h
 simp only [Bool.and_eq_true, decide_eq_true_eq] at h
 exact ⟨(of_decide_eq_true h.1.1.2).2.1, h.2⟩

set_option linter.unusedSimpArgs false in
set_option maxRecDepth 100000 in
set_option maxHeartbeats 1600000 in
theorem packOp_any (w : World) (o : OpV) (vo : Option Addr) (vc : Nat) (hv : RowS w (.slice vo o.v.length vc) o.v) :
  Calls Tryz.prog 103 #[.agg #[.int .i64 o.kind, .string o.name, .int .i64 o.n, .slice vo o.v.length vc]] w fun e w' => e = .returned (.tuple #[.string (opS o), errV (opF o)]) ∧ Below w.heap.size w w' := by
 have X1 := hide (FourV.new w (.int .i64 o.kind) (.string o.name) (.int .i64 o.n) (.slice vo o.v.length vc) 43)
 have HB := hide (alloc_below w (.cells #[.int .i64 o.kind, .string o.name, .int .i64 o.n, .slice vo o.v.length vc] 43))
 have HV := hide hv
 obtain ⟨c0, c1, c2, c3, -⟩ := X1.out
 obtain ⟨F, hF⟩ : ∃ F, opF o = F := ⟨_, rfl⟩
 obtain ⟨T, hT⟩ : ∃ T, opS o = T := ⟨_, rfl⟩
 rw [hF, hT]
 have HF := hide hF; have HT := hide hT
 clear hv hF hT
 go_enter Tryz.func103, Tryz.ntmps103
 go_wp2_with fail
 generalize w.alloc (.cells #[.int .i64 o.kind, .string o.name, .int .i64 o.n, .slice vo o.v.length vc] 43) = W at *
 refine (shapedP_any W o vo vc).mono ?_
 rintro e w1 ⟨rfl, hb1⟩
 have X2 := hide (X1.out.later hb1); have HB1 := hide (HB.out.trans (hb1.mono HB.out.size))
 clear X1 HB hb1 c0 c1 c2 c3
 obtain ⟨c0, c1, c2, c3, -⟩ := X2.out
 cases hs : shapeB o with
 | false =>
  have h3 : opF o = 3 := by unfold opF; rw [if_pos hs]
  have hS : opS o = ⟨#[]⟩ := by unfold opS; rw [if_neg (by rw [h3]; decide)]
  obtain rfl : F = 3 := HF.out.symm.trans h3
  obtain rfl : T = ⟨#[]⟩ := HT.out.symm.trans hS
  clear HF HT hS hs h3
  go_wp2
  go_ret2
  exact ⟨rfl, HB1.out⟩
 | true =>
  obtain ⟨hn8, hl4⟩ := shapeB_few hs
  have HS := hide hs
  clear hs
  obtain ⟨l, hl⟩ : ∃ l, o.v.length = l := ⟨_, rfl⟩
  rw [hl] at c3 hl4 X2
  have HV1 := HV.out.below HB1.out (Nat.le_refl _)
  rw [hl] at HV1
  have HW := hide HV1
  clear HV HV1
  have hwl : w.heap.size < w1.heap.size := X2.out.2.2.2.2
  have bA := BufB.two w1 o.kind (o.name.size : Int)
  have hA := alloc_below w1 (.cells #[.int .u8 (o.kind % 256), .int .u8 ((o.name.size : Int) % 256)] 5)
  obtain ⟨-, d1, d2, d3, -⟩ := X2.out.later hA
  generalize hWA : w1.alloc (.cells #[.int .u8 (o.kind % 256), .int .u8 ((o.name.size : Int) % 256)] 5) = A1 at *
  obtain ⟨o1, k1, A2, hr1, bB, hbB⟩ := bA.str hA.size o.name 142 (by simp; omega)
  obtain ⟨n1, hn1⟩ : ∃ n, ([lowB o.kind, lowB (o.name.size : Int)] ++ o.name.data.toList).length = n := ⟨_, rfl⟩
  rw [hn1] at hr1 bB
  have HR1 := hide hr1
  have e2 := (hbB.cell (p := ⟨w.heap.size, 2, none⟩) hwl).trans d2; have e3 := (hbB.cell (p := ⟨w.heap.size, 3, none⟩) hwl).trans d3
  have hbl := hbB.size
  obtain ⟨o2, k2, A3, hr2, bC, hbC⟩ := bB.more (Nat.le_trans hA.size hbB.size) [lowB o.n, lowB (l : Int)] #[.int .u8 (o.n % 256), .int .u8 ((l : Int) % 256)] (by simp [Lib.byteCells, lowB_nat]) 142 5 (by simp; omega)
  obtain ⟨n2, hn2⟩ : ∃ n, (([lowB o.kind, lowB (o.name.size : Int)] ++ o.name.data.toList) ++ [lowB o.n, lowB (l : Int)]).length = n := ⟨_, rfl⟩
  have hhead : ([lowB o.kind, lowB (o.name.size : Int)] ++ o.name.data.toList) ++ [lowB o.n, lowB (l : Int)] = headB o := by unfold headB; rw [hl]
  rw [hn2] at hr2 bC
  rw [hhead] at bC hn2
  have HR2 := hide hr2
  have f3 := (hbC.cell (p := ⟨w.heap.size, 3, none⟩) hwl).trans e3
  have hB3 := hA.trans (hbB.trans (hbC.mono (Nat.le_refl _)))
  have HBUF := hide bC; have HBL := hide hB3; have HN2 := hide hn2; have HLL := hide hl
  skip
  have HH2 : Hid (n2 ≤ 12) := by show n2 ≤ 12; rw [← hn2]; unfold headB; simp; omega
  subst hWA
  have HN8 := hide hn8; have HL4 := hide hl4
  have HWL := hide hwl
  clear hn8 hl4 hbl hwl
  clear bA hA hr1 bB hbB hn1 hr2 bC hbC hn2 hhead hl
  go_wp2_with (at_builtin; first | refine Lib.wpList_append_run _ rfl _ _ _ _ rfl _ _ rfl rfl _ _ HR1.out ?_ | refine Lib.wpList_append_run _ rfl _ _ _ _ rfl _ _ rfl rfl _ _ HR2.out ?_)
  clear d1 d2 d3 e2 e3 HR1 HR2 c0 c1 c2 c3 f3
  go_loopw [4, 35] (fun out i wr => ∃ (k : Nat) (oo : Option Addr) (nn cc : Nat), k ≤ l ∧ i = .int .i64 k ∧ out = .slice oo nn cc ∧ Hid (nn = n2 + k * 2) ∧ Hid (BufB w1.heap.size wr (.slice oo nn cc) (headB o ++ (o.v.take k).flatMap twoB)) ∧ Hid ((o.v.take k).any (fun z => decide (z < -999 ∨ 999 < z)) = false) ∧ Hid (Below w1.heap.size w1 wr)) (fun _ i _ => l - (intOf i).toNat)
  case atStart => exact ⟨0, _, _, _, Nat.zero_le _, rfl, rfl, hide (by omega), hide (by rw [List.take_zero, List.flatMap_nil, List.append_nil]; exact HBUF.out), hide (by rw [List.take_zero]; rfl), HBL⟩
  case round =>
   clear HBUF HBL
   obtain ⟨k, oo, nn, cc, hk, rfl, rfl, HNN, HBUF, HANY, HBL⟩ := hrel
   obtain ⟨-, -, -, c3, -⟩ := X2.out.later HBL.out
   have hl4 := HL4.out
   by_cases hkl : k < l
   ·have HKL : Hid (k < o.v.length) := by show _ < _; rw [HLL.out]; exact hkl
    obtain ⟨_, _, e, -, -, hh⟩ := HW.out
    simp only [Value.slice.injEq] at e
    obtain ⟨rfl, -, rfl⟩ := e
    obtain ⟨b, off, rfl, hlt, hc⟩ := hh (by have := HKL.out; omega)
    have cz1 := hc k HKL.out
    have cz := (HBL.out.cell (p := ⟨b, off + k, none⟩) hlt).trans cz1
    clear hh hc cz1
    have HTK : Hid (o.v.take (k + 1) = o.v.take k ++ [o.v.getD k 0]) := by
     show _ = _
     rw [List.take_succ_eq_append_getElem HKL.out, getD_at HKL.out]
    have HMEM : Hid (o.v.getD k 0 ∈ o.v) := by
     show _ ∈ _
     rw [getD_at HKL.out]
     exact List.getElem_mem _
    generalize o.v.getD k 0 = z at *
    by_cases hbig : z < -999 ∨ 999 < z
    ·have HF1 : Hid (F = 1) := by
      show F = 1
      rw [← HF.out]
      unfold opF
      rw [if_neg (by rw [HS.out]; decide), if_pos (show bigB o = true from List.any_eq_true.2 ⟨z, HMEM.out, decide_eq_true hbig⟩)]
     have HT1 : Hid (T = ⟨#[]⟩) := by
      show T = _
      rw [← HT.out]
      unfold opS
      rw [if_neg (by rw [HF.out, HF1.out]; decide)]
     obtain rfl : F = 1 := HF1.out
     obtain rfl : T = ⟨#[]⟩ := HT1.out
     by_cases h1 : z < -999
     ·have g1 : decide (z < -999) = true := decide_eq_true h1
      clear hbig HF HT HF1 HT1 h1
      go_wp2
      go_ret2
      exact ⟨rfl, HB1.out.trans (HBL.out.mono HB1.out.size)⟩
     ·have g1 : decide (z < -999) = false := decide_eq_false h1
      have g2 : decide (999 < z) = true := decide_eq_true (by omega)
      clear hbig HF HT HF1 HT1 h1
      go_wp2
      go_ret2
      exact ⟨rfl, HB1.out.trans (HBL.out.mono HB1.out.size)⟩
    ·have gz1 : decide (z < -999) = false := decide_eq_false (by omega)
     have gz2 : decide (999 < z) = false := decide_eq_false (by omega)
     have HBG := hide hbig
     have hbz := HBL.out.size
     have hwl := HWL.out
     have bD : BufB w1.heap.size wr.drew (.slice oo nn cc) (headB o ++ (o.v.take k).flatMap twoB) := BufB.later HBUF.out (Below.refl _ _).drew
     obtain ⟨o3, k3, W', hr4, bE, hbE⟩ := BufB.more (W := wr.drew) (m := twoB z) bD (by show w1.heap.size ≤ wr.heap.size; exact hbz) #[.int .u8 (z % 256), .int .u8 (z / 256 % 256)] (by simp [Lib.byteCells, twoB, lowB_nat]) 142 5 (by have h1 := HNN.out; have h2 := HH2.out; have h3 : (headB o ++ (o.v.take k).flatMap twoB).length = nn := HBUF.out.len.symm; rw [h3]; show nn + 2 ≤ _; omega)
     have hbA := alloc_below wr.drew (.cells #[.int .u8 (z % 256), .int .u8 (z / 256 % 256)] 5)
     have kl : w.heap.size < wr.heap.size := by omega
     have f0 := (hbA.cell (p := ⟨w.heap.size, 3, none⟩) kl).trans c3; have f1 := (hbA.cell (p := ⟨b, off + k, none⟩) (Nat.lt_of_lt_of_le hlt hbz)).trans cz
     obtain ⟨n3, hn3⟩ : ∃ n, ((headB o ++ (o.v.take k).flatMap twoB) ++ twoB z).length = n := ⟨_, rfl⟩
     rw [hn3] at hr4 bE
     have h2 : (twoB z).length = 2 := rfl
     rw [h2] at hr4
     have HR4 := hide hr4
     have g0 := (hbE.cell (p := ⟨w.heap.size, 3, none⟩) hwl).trans c3
     have g1 := (hbE.cell (p := ⟨b, off + k, none⟩) hlt).trans cz
     have HBE2 : Hid (BufB w1.heap.size W' (.slice o3 n3 k3) (headB o ++ (o.v.take (k + 1)).flatMap twoB)) := by
      show BufB _ _ _ _
      rw [HTK.out, List.flatMap_append, List.flatMap_cons, List.flatMap_nil, List.append_nil, ← List.append_assoc]
      exact bE
     have HN3 : Hid (n3 = n2 + (k + 1) * 2) := by
      have h1 := HNN.out; have h3 : (headB o ++ (o.v.take k).flatMap twoB).length = nn := HBUF.out.len.symm
      show n3 = _
      rw [← hn3, List.length_append, h3]
      show nn + 2 = _
      omega
     have HANY2 : Hid ((o.v.take (k + 1)).any (fun z => decide (z < -999 ∨ 999 < z)) = false) := by
      show _ = _
      rw [HTK.out, List.any_append, HANY.out, Bool.false_or, List.any_cons, List.any_nil, Bool.or_false]
      exact decide_eq_false HBG.out
     have HBL2 := hide (HBL.out.trans (((Below.refl w1.heap.size wr).drew).trans hbE))
     clear hr4 bE hbE hbA bD hn3 h2 hbig HBUF HNN HANY HBL HTK HMEM hlt
     go_wp2_with fail
     refine up_start (A := fun j => !decide (j = 0 ∨ j = 1 ∨ j = 3 ∨ j = 7 ∨ j = 9 ∨ j = 16)) (S := (fun w' => w'.cell? ⟨w.heap.size, 3, none⟩ = some (.slice (some ⟨b, off, none⟩) l vc) ∧ w'.cell? ⟨b, off + k, none⟩ = some (.int .i64 z))) (by kernel_rfl) (by exact ⟨c3, cz⟩) (fun hHeld => ?_)
     refine up_pure (v := ?_) 0 53 rfl rfl (by kernel_rfl) (by kernel_rfl) (by kernel_rfl) (by kernel_rfl) (fun _ _ _ h => h) (by rfl) ?_ ?_
     rotate_left
     ·(intro w; go_simp; with_reducible rfl)
     simp only [Act.put, List.setIfInBounds_toArray, List.set_cons_zero, List.set_cons_succ]
     refine up_pure (v := ?_) 1 54 rfl rfl (by kernel_rfl) (by kernel_rfl) (by kernel_rfl) (by kernel_rfl) (fun _ _ _ h => h) (by rfl) ?_ ?_
     rotate_left
     ·(intro w; go_simp; with_reducible rfl)
     simp only [Act.put, List.setIfInBounds_toArray, List.set_cons_zero, List.set_cons_succ]
     refine up_pure (v := ?_) 3 56 rfl rfl (by kernel_rfl) (by kernel_rfl) (by kernel_rfl) (by kernel_rfl) (fun _ _ _ h => h) (by rfl) ?_ ?_
     rotate_left
     ·(intro w; go_simp; with_reducible rfl)
     simp only [Act.put, List.setIfInBounds_toArray, List.set_cons_zero, List.set_cons_succ]
     refine up_pure (v := ?_) 7 60 rfl rfl (by kernel_rfl) (by kernel_rfl) (by kernel_rfl) (by kernel_rfl) (fun _ _ _ h => h) (by rfl) ?_ ?_
     rotate_left
     ·(intro w; go_simp; with_reducible rfl)
     simp only [Act.put, List.setIfInBounds_toArray, List.set_cons_zero, List.set_cons_succ]
     refine up_pure (v := ?_) 9 62 rfl rfl (by kernel_rfl) (by kernel_rfl) (by kernel_rfl) (by kernel_rfl) (fun _ _ _ h => h) (by rfl) ?_ ?_
     rotate_left
     ·(intro w; go_simp; with_reducible rfl)
     simp only [Act.put, List.setIfInBounds_toArray, List.set_cons_zero, List.set_cons_succ]
     refine up_run (v := ?_) 2 55 [16] rfl rfl (by kernel_rfl) (by kernel_rfl) (by kernel_rfl) (by kernel_rfl) (fun _ _ _ h => h) (by rfl) ?_ (by assumption) ?_
     rotate_left
     ·(intro w hSw; (try dsimp only at hSw); obtain ⟨hS1, hS2⟩ := hSw; go_simp; with_reducible rfl)
     simp only [Act.put, List.setIfInBounds_toArray, List.set_cons_zero, List.set_cons_succ]
     refine up_run (v := ?_) 4 57 [16] rfl rfl (by kernel_rfl) (by kernel_rfl) (by kernel_rfl) (by kernel_rfl) (fun _ _ _ h => h) (by rfl) ?_ (by assumption) ?_
     rotate_left
     ·(intro w hSw; (try dsimp only at hSw); obtain ⟨hS1, hS2⟩ := hSw; go_simp; with_reducible rfl)
     simp only [Act.put, List.setIfInBounds_toArray, List.set_cons_zero, List.set_cons_succ]
     refine up_run (v := ?_) 5 58 [16] rfl rfl (by kernel_rfl) (by kernel_rfl) (by kernel_rfl) (by kernel_rfl) (fun _ _ _ h => h) (by rfl) ?_ (by assumption) ?_
     rotate_left
     ·(intro w hSw; (try dsimp only at hSw); obtain ⟨hS1, hS2⟩ := hSw; go_simp; with_reducible rfl)
     simp only [Act.put, List.setIfInBounds_toArray, List.set_cons_zero, List.set_cons_succ]
     refine up_run (v := ?_) 6 59 [16] rfl rfl (by kernel_rfl) (by kernel_rfl) (by kernel_rfl) (by kernel_rfl) (fun _ _ _ h => h) (by rfl) ?_ (by assumption) ?_
     rotate_left
     ·(intro w hSw; (try dsimp only at hSw); obtain ⟨hS1, hS2⟩ := hSw; go_simp; with_reducible rfl)
     simp only [Act.put, List.setIfInBounds_toArray, List.set_cons_zero, List.set_cons_succ]
     refine up_run (v := ?_) 8 61 [16] rfl rfl (by kernel_rfl) (by kernel_rfl) (by kernel_rfl) (by kernel_rfl) (fun _ _ _ h => h) (by rfl) ?_ (by assumption) ?_
     rotate_left
     ·(intro w hSw; (try dsimp only at hSw); obtain ⟨hS1, hS2⟩ := hSw; go_simp; with_reducible rfl)
     simp only [Act.put, List.setIfInBounds_toArray, List.set_cons_zero, List.set_cons_succ]
     refine up_run (v := ?_) 10 63 [16] rfl rfl (by kernel_rfl) (by kernel_rfl) (by kernel_rfl) (by kernel_rfl) (fun _ _ _ h => h) (by rfl) ?_ (by assumption) ?_
     rotate_left
     ·(intro w hSw; (try dsimp only at hSw); obtain ⟨hS1, hS2⟩ := hSw; go_simp; with_reducible rfl)
     simp only [Act.put, List.setIfInBounds_toArray, List.set_cons_zero, List.set_cons_succ]
     refine up_run (v := ?_) 11 64 [16] rfl rfl (by kernel_rfl) (by kernel_rfl) (by kernel_rfl) (by kernel_rfl) (fun _ _ _ h => h) (by rfl) ?_ (by assumption) ?_
     rotate_left
     ·(intro w hSw; (try dsimp only at hSw); obtain ⟨hS1, hS2⟩ := hSw; go_simp; with_reducible rfl)
     simp only [Act.put, List.setIfInBounds_toArray, List.set_cons_zero, List.set_cons_succ]
     refine up_run (v := ?_) 12 65 [16] rfl rfl (by kernel_rfl) (by kernel_rfl) (by kernel_rfl) (by kernel_rfl) (fun _ _ _ h => h) (by rfl) ?_ (by assumption) ?_
     rotate_left
     ·(intro w hSw; (try dsimp only at hSw); obtain ⟨hS1, hS2⟩ := hSw; go_simp; with_reducible rfl)
     simp only [Act.put, List.setIfInBounds_toArray, List.set_cons_zero, List.set_cons_succ]
     refine up_run (v := ?_) 13 66 [16] rfl rfl (by kernel_rfl) (by kernel_rfl) (by kernel_rfl) (by kernel_rfl) (fun _ _ _ h => h) (by rfl) ?_ (by assumption) ?_
     rotate_left
     ·(intro w hSw; (try dsimp only at hSw); obtain ⟨hS1, hS2⟩ := hSw; go_simp; with_reducible rfl)
     simp only [Act.put, List.setIfInBounds_toArray, List.set_cons_zero, List.set_cons_succ]
     refine up_one 14 (by kernel_rfl) rfl (fun K hK => ?_)
     go_simp
     refine hK.out _ _ (fun _ => ⟨f0, f1⟩) ?_
     clear hK K
     try simp only [Act.put, List.setIfInBounds_toArray, List.set_cons_zero, List.set_cons_succ]
     refine up_one 15 (by kernel_rfl) rfl (fun K hK => ?_)
     refine step_append_run rfl (.tmp 53) (.tmp 67) 142 142 rfl _ _ rfl rfl _ _ HR4.out ?_
     refine hK.out _ _ (fun _ => ⟨g0, g1⟩) ?_
     clear hK K
     try simp only [Act.put, List.setIfInBounds_toArray, List.set_cons_zero, List.set_cons_succ]
     refine up_one 16 (by kernel_rfl) rfl (fun K hK => ?_)
     go_simp
     refine hK.out _ _ (fun h => absurd h (by decide)) ?_
     clear hK K
     try simp only [Act.put, List.setIfInBounds_toArray, List.set_cons_zero, List.set_cons_succ]
     refine up_done (by kernel_rfl) ?_
     go_wp2
     go_roundw
     case rel => exact ⟨k + 1, _, _, _, by omega, by go_num, rfl, HN3, HBE2, HANY2, HBL2⟩
     case measure => simp [intOf]; omega
   ·obtain rfl : k = l := by omega
    have HTA : Hid (o.v.take k = o.v) := by show _ = _; rw [← HLL.out, List.take_length]
    have HF0 : Hid (F = 0) := by
     show F = 0
     rw [← HF.out]
     unfold opF
     rw [if_neg (by rw [HS.out]; decide), if_neg]
     have h := HANY.out
     rw [HTA.out] at h
     rw [show bigB o = false from h]
     decide
    have HT0 : Hid (T = ⟨(opB o).toArray⟩) := by
     show T = _
     rw [← HT.out]
     unfold opS
     rw [if_pos (HF.out.trans HF0.out)]
    have HBU : Hid (BufB w1.heap.size wr (.slice oo (opB o).length cc) (opB o)) := by
     have h := HBUF.out
     rw [HTA.out] at h
     have h2 := h.len
     show BufB _ _ _ _
     unfold opB
     rw [← h2]
     exact h
    have HNO : Hid ((opB o).length = nn) := by
     have h := HBUF.out.len
     rw [HTA.out] at h
     exact h.symm
    have hcv := HBU.out.back (by unfold opB headB; simp)
    rw [HNO.out] at hcv
    obtain rfl : F = 0 := HF0.out
    obtain rfl : T = ⟨(opB o).toArray⟩ := HT0.out
    clear HF HT HF0 HT0 HBU HNO HTA HBUF HNN HANY HH2 hkl hk
    go_wp2
    go_ret2
    exact ⟨rfl, HB1.out.trans (HBL.out.mono HB1.out.size)⟩

end Go.Proofs.YtnhbfehfipafoaaGreatDoor
