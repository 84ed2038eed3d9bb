/- The reference: an operation as bytes. -/
import Derived.Test.YtjdnhdcaifogmaaGreatDoorBpC
import Derived.Test.YtjdnhdcaifogmaaGreatDoorBgB
import Derived.Deep.Cut
import Derived.Deep.CutRange
import Derived.Test.YtjdnhdcaifogmaaGreatDoorBpD

namespace Go.Proofs.YtjdnhdcaifogmaaGreatDoor
open Go.RowKit

set_option linter.unusedSimpArgs false in
set_option maxRecDepth 100000 in
set_option maxHeartbeats 1600000 in
theorem opTextR_any (w : World) (o : OpV) (vo : Option Addr) (vc : Nat) (hv : RowS w (.slice vo o.v.length vc) o.v) (hvl : o.v.length ≤ 1000000) :
  Calls Tryz.prog 15 #[.agg #[.int .i64 o.kind, .string o.name, .int .i64 o.n, .slice vo o.v.length vc]] w fun e w' => e = .returned (.tuple #[.string (opS o), .int .i64 (opF o : Int)]) ∧ Below w.heap.size w w' := by
 have X1 := hide (FourV.new w (.int .i64 o.kind) (.string o.name) (.int .i64 o.n) (.slice vo o.v.length vc) 46)
 have HB := hide (alloc_below w (.cells #[.int .i64 o.kind, .string o.name, .int .i64 o.n, .slice vo o.v.length vc] 46))
 have HV := hide hv
 obtain ⟨F, hF⟩ : ∃ F, opF o = F := ⟨_, rfl⟩
 obtain ⟨T, hT⟩ : ∃ T, opS o = T := ⟨_, rfl⟩
 rw [hF, hT]
 have HF := hide hF; have HT := hide hT
 clear hv hF hT
 obtain ⟨l, hl⟩ : ∃ l, o.v.length = l := ⟨_, rfl⟩
 have HL := hide hl
 rw [hl] at X1 HB hvl HV ⊢
 clear hl
 obtain ⟨c0, c1, c2, c3, -⟩ := X1.out
 go_enter Tryz.func15, Tryz.ntmps15
 go_wp2_with fail
 generalize w.alloc (.cells #[.int .i64 o.kind, .string o.name, .int .i64 o.n, .slice vo l vc] 46) = W at *
 refine (nameR_any o.name W).mono ?_
 rintro e w1 ⟨rfl, rfl⟩
 go_upto_region 2 with fail
 go_cut [38] from 11 to 39 (fun v wx => v = .bool (!shapeB o) ∧ wx = w1)
 case first =>
  have HE : Hid (shapeB o = (decide (1 ≤ o.kind) && decide (o.kind ≤ 4) && nmOk o.name && decide (l ≤ 4) && decide (0 ≤ o.n) && decide (o.n ≤ 4))) := by
   show _ = _
   unfold shapeB
   rw [HL.out]
   by_cases a0 : 1 ≤ o.kind <;> by_cases a1 : o.kind ≤ 4 <;> by_cases a2 : 0 ≤ o.n <;> by_cases a3 : o.n ≤ 4 <;> by_cases a4 : l ≤ 4 <;> simp [a0, a1, a2, a3, a4]
  obtain ⟨r, hr⟩ : ∃ r, shapeB o = r := ⟨_, rfl⟩
  rw [hr] at HE
  have HR0 := hide hr
  clear hr HF HT HL HV
  generalize o.kind = k at *
  generalize o.n = n at *
  generalize nmOk o.name = b3 at *
  by_cases a0 : k < 1
  ·have g0 : decide (k < 1) = true := decide_eq_true a0
   have hr : r = false := by rw [HE.out, decide_eq_false (show ¬ 1 ≤ k by omega)]; rfl
   subst hr
   clear HE
   go_wp2_with fail
   go_meet
   case rel => exact ⟨by rw [HR0.out]; rfl, rfl⟩
  have g0 : decide (k < 1) = false := decide_eq_false a0
  by_cases a1 : 4 < k
  ·have g1 : decide (4 < k) = true := decide_eq_true a1
   have hr : r = false := by rw [HE.out, decide_eq_false (show ¬ k ≤ 4 by omega)]; simp
   subst hr
   clear HE
   go_wp2_with fail
   go_meet
   case rel => exact ⟨by rw [HR0.out]; rfl, rfl⟩
  have g1 : decide (4 < k) = false := decide_eq_false a1
  cases b3 with
  | false =>
   have hr : r = false := by rw [HE.out]; simp
   subst hr
   clear HE
   go_wp2_with fail
   go_meet
   case rel => exact ⟨by rw [HR0.out]; rfl, rfl⟩
  | true =>
  by_cases a4 : 4 < l
  ·have g4 : decide (4 < (l : Int)) = true := decide_eq_true (by omega)
   have hr : r = false := by rw [HE.out, decide_eq_false (show ¬ l ≤ 4 by omega)]; simp
   subst hr
   clear HE
   go_wp2_with fail
   go_meet
   case rel => exact ⟨by rw [HR0.out]; rfl, rfl⟩
  have g4 : decide (4 < (l : Int)) = false := decide_eq_false (by omega)
  by_cases a2 : n < 0
  ·have g2 : decide (n < 0) = true := decide_eq_true a2
   have hr : r = false := by rw [HE.out, decide_eq_false (show ¬ 0 ≤ n by omega)]; simp
   subst hr
   clear HE
   go_wp2_with fail
   go_meet
   case rel => exact ⟨by rw [HR0.out]; rfl, rfl⟩
  have g2 : decide (n < 0) = false := decide_eq_false a2
  by_cases a3 : 4 < n
  ·have g3 : decide (4 < n) = true := decide_eq_true a3
   have hr : r = false := by rw [HE.out, decide_eq_false (show ¬ n ≤ 4 by omega)]; simp
   subst hr
   clear HE
   go_wp2_with fail
   go_meet
   case rel => exact ⟨by rw [HR0.out]; rfl, rfl⟩
  have g3 : decide (4 < n) = false := decide_eq_false a3
  have hr : r = true := by rw [HE.out, decide_eq_true (show 1 ≤ k by omega), decide_eq_true (show k ≤ 4 by omega), decide_eq_true (show l ≤ 4 by omega), decide_eq_true (show 0 ≤ n by omega), decide_eq_true (show n ≤ 4 by omega)]; rfl
  subst hr
  clear HE
  go_wp2_with fail
  go_meet
  case rel => exact ⟨by rw [HR0.out]; rfl, rfl⟩
 case rest =>
  obtain ⟨rfl, rfl⟩ := hcut
  cases hs : shapeB o with
  | false =>
   have h3 : opF o = 3 := by unfold opF; rw [if_pos hs]
   have hS : opS o = ⟨#[]⟩ := by unfold opS; rw [if_neg (by rw [h3]; decide)]
   obtain rfl : F = 3 := HF.out.symm.trans h3
   obtain rfl : T = ⟨#[]⟩ := HT.out.symm.trans hS
   clear HF HT hS hs h3
   go_wp2
   go_ret2
   exact ⟨rfl, HB.out⟩
  | true =>
   have hl4 : l ≤ 4 := by rw [← HL.out]; exact (shapeB_few hs).2
   have hn8 := (shapeB_few hs).1
   have HS := hide hs
   clear hs
   have HW := hide (HV.out.below HB.out (Nat.le_refl _))
   have hwl : w.heap.size < wc.heap.size := X1.out.2.2.2.2
   have bA := BufB.two wc o.kind (o.name.size : Int)
   have hA := alloc_below wc (.cells #[.int .u8 (o.kind % 256), .int .u8 ((o.name.size : Int) % 256)] 5)
   obtain ⟨d0, d1, d2, d3, -⟩ := X1.out.later hA
   generalize hWA : wc.alloc (.cells #[.int .u8 (o.kind % 256), .int .u8 ((o.name.size : Int) % 256)] 5) = A1 at *
   obtain ⟨o1, k1, A2, hr1, bB, hbB⟩ := bA.str hA.size o.name 58 (by simp; omega)
   obtain ⟨n1, hn1⟩ : ∃ n, ([lowB o.kind, lowB (o.name.size : Int)] ++ o.name.data.toList).length = n := ⟨_, rfl⟩
   rw [hn1] at hr1 bB
   have HR1 := hide hr1
   have e2 := (hbB.cell (p := ⟨w.heap.size, 2, none⟩) hwl).trans d2; have e3 := (hbB.cell (p := ⟨w.heap.size, 3, none⟩) hwl).trans d3
   have hbl := hbB.size
   obtain ⟨o2, k2, A3, hr2, bC, hbC⟩ := bB.more (Nat.le_trans hA.size hbB.size) [lowB o.n, lowB (l : Int)] #[.int .u8 (o.n % 256), .int .u8 ((l : Int) % 256)] (by simp [Lib.byteCells, lowB_nat]) 58 5 (by simp; omega)
   obtain ⟨n2, hn2⟩ : ∃ n, (([lowB o.kind, lowB (o.name.size : Int)] ++ o.name.data.toList) ++ [lowB o.n, lowB (l : Int)]).length = n := ⟨_, rfl⟩
   have hhead : ([lowB o.kind, lowB (o.name.size : Int)] ++ o.name.data.toList) ++ [lowB o.n, lowB (l : Int)] = headB o := by unfold headB; rw [HL.out]
   rw [hn2] at hr2 bC
   rw [hhead] at bC hn2
   have HR2 := hide hr2
   have f3 := (hbC.cell (p := ⟨w.heap.size, 3, none⟩) hwl).trans e3
   have hB3 := hA.trans (hbB.trans (hbC.mono (Nat.le_refl _)))
   have HBUF := hide bC; have HBL := hide hB3
   have HH2 : Hid (n2 ≤ 12) := by show n2 ≤ 12; rw [← hn2]; unfold headB; simp; omega
   subst hWA
   have HL4 := hide hl4; have HWL := hide hwl
   clear hn8 hl4 hbl hwl
   clear bA hA hr1 bB hbB hn1 hr2 bC hbC hn2 hhead
   go_wp2_with (at_builtin; first | refine Lib.wpList_append_run _ rfl _ _ _ _ rfl _ _ rfl rfl _ _ HR1.out ?_ | refine Lib.wpList_append_run _ rfl _ _ _ _ rfl _ _ rfl rfl _ _ HR2.out ?_)
   clear d0 d1 d2 d3 e2 e3 HR1 HR2 c0 c1 c2 c3 f3
   go_loopw [5, 6] (fun out i wr => ∃ (k : Nat) (oo : Option Addr) (nn cc : Nat), k ≤ l ∧ i = .int .i64 k ∧ out = .slice oo nn cc ∧ Hid (nn = n2 + k * 2) ∧ Hid (BufB wc.heap.size wr (.slice oo nn cc) (headB o ++ (o.v.take k).flatMap twoB)) ∧ Hid ((o.v.take k).any (fun z => decide (z < -999 ∨ 999 < z)) = false) ∧ Hid (Below wc.heap.size wc wr)) (fun _ i _ => l - (intOf i).toNat)
   case atStart => exact ⟨0, _, _, _, Nat.zero_le _, rfl, rfl, hide (by omega), hide (by rw [List.take_zero, List.flatMap_nil, List.append_nil]; exact HBUF.out), hide (by rw [List.take_zero]; rfl), HBL⟩
   case round =>
    clear HBUF HBL
    obtain ⟨k, oo, nn, cc, hk, rfl, rfl, HNN, HBUF, HANY, HBL⟩ := hrel
    obtain ⟨-, -, -, c3, -⟩ := X1.out.later HBL.out
    have hl4 := HL4.out
    by_cases hkl : k < l
    ·have HKL : Hid (k < o.v.length) := by show _ < _; rw [HL.out]; exact hkl
     obtain ⟨_, _, e, -, -, hh⟩ := HW.out
     simp only [Value.slice.injEq] at e
     obtain ⟨rfl, -, rfl⟩ := e
     obtain ⟨b, off, rfl, hlt, hc⟩ := hh (by have := HKL.out; omega)
     have cz1 := hc k HKL.out
     have cz := (HBL.out.cell (p := ⟨b, off + k, none⟩) hlt).trans cz1
     clear hh hc cz1
     have HTK : Hid (o.v.take (k + 1) = o.v.take k ++ [o.v.getD k 0]) := by
      show _ = _
      rw [List.take_succ_eq_append_getElem HKL.out, getD_at HKL.out]
     have HMEM : Hid (o.v.getD k 0 ∈ o.v) := by
      show _ ∈ _
      rw [getD_at HKL.out]
      exact List.getElem_mem _
     generalize o.v.getD k 0 = z at *
     by_cases hbig : z < -999 ∨ 999 < z
     ·have HF1 : Hid (F = 1) := by
       show F = 1
       rw [← HF.out]
       unfold opF
       rw [if_neg (by rw [HS.out]; decide), if_pos (show bigB o = true from List.any_eq_true.2 ⟨z, HMEM.out, decide_eq_true hbig⟩)]
      have HT1 : Hid (T = ⟨#[]⟩) := by
       show T = _
       rw [← HT.out]
       unfold opS
       rw [if_neg (by rw [HF.out, HF1.out]; decide)]
      obtain rfl : F = 1 := HF1.out
      obtain rfl : T = ⟨#[]⟩ := HT1.out
      by_cases h1 : z < -999
      ·have g1 : decide (z < -999) = true := decide_eq_true h1
       clear hbig HF HT HF1 HT1 h1
       go_wp2
       go_ret2
       exact ⟨rfl, HB.out.trans (HBL.out.mono HB.out.size)⟩
      ·have g1 : decide (z < -999) = false := decide_eq_false h1
       have g2 : decide (999 < z) = true := decide_eq_true (by omega)
       clear hbig HF HT HF1 HT1 h1
       go_wp2
       go_ret2
       exact ⟨rfl, HB.out.trans (HBL.out.mono HB.out.size)⟩
     ·have gz1 : decide (z < -999) = false := decide_eq_false (by omega)
      have gz2 : decide (999 < z) = false := decide_eq_false (by omega)
      have HBG := hide hbig
      have hbz := HBL.out.size
      obtain ⟨o3, k3, W', hr4, bE, hbE⟩ := BufB.more (W := wr) (m := twoB z) HBUF.out hbz #[.int .u8 (z % 256), .int .u8 (z / 256 % 256)] (by simp [Lib.byteCells, twoB, lowB_nat]) 58 5 (by have h1 := HNN.out; have h2 := HH2.out; have h3 : (headB o ++ (o.v.take k).flatMap twoB).length = nn := HBUF.out.len.symm; rw [h3]; show nn + 2 ≤ _; omega)
      obtain ⟨n3, hn3⟩ : ∃ n, ((headB o ++ (o.v.take k).flatMap twoB) ++ twoB z).length = n := ⟨_, rfl⟩
      rw [hn3] at hr4 bE
      have h2 : (twoB z).length = 2 := rfl
      rw [h2] at hr4
      have HBE2 : Hid (BufB wc.heap.size W' (.slice o3 n3 k3) (headB o ++ (o.v.take (k + 1)).flatMap twoB)) := by
       show BufB _ _ _ _
       rw [HTK.out, List.flatMap_append, List.flatMap_cons, List.flatMap_nil, List.append_nil, ← List.append_assoc]
       exact bE
      have HN3 : Hid (n3 = n2 + (k + 1) * 2) := by
       have h1 := HNN.out; have h3 : (headB o ++ (o.v.take k).flatMap twoB).length = nn := HBUF.out.len.symm
       show n3 = _
       rw [← hn3, List.length_append, h3]
       show nn + 2 = _
       omega
      have HANY2 : Hid ((o.v.take (k + 1)).any (fun z => decide (z < -999 ∨ 999 < z)) = false) := by
       show _ = _
       rw [HTK.out, List.any_append, HANY.out, Bool.false_or, List.any_cons, List.any_nil, Bool.or_false]
       exact decide_eq_false HBG.out
      have HBL2 := hide (HBL.out.trans hbE)
      have HR4 := hide hr4
      have hz1 : -999 ≤ z := by omega
      have hz2 : z ≤ 999 := by omega
      clear hr4 bE hbE hn3 h2 hbig HBUF HNN HANY HBL HTK HMEM hbz HBG
      go_upto_region 12 with fail
      go_cut [7] from 82 to 88 (fun v wx => v = .int .i64 (z % 65536) ∧ wx = wr)
      case first =>
       go_wp2_with fail
       go_meet
       case rel => exact ⟨by congr 1; omega, rfl⟩
      obtain ⟨rfl, rfl⟩ := hcut
      obtain ⟨x, hx⟩ : ∃ x, z % 65536 = x := ⟨_, rfl⟩
      have hx0 : 0 ≤ x := by omega
      have hx1 : x < 65536 := by omega
      rw [hx]
      have e4 : z % 256 = x % 256 := by omega
      have e5 : z / 256 % 256 = x / 256 := by omega
      rw [e4, e5] at HR4
      clear hx e4 e5 hz1 hz2
      go_wp2_with (at_builtin; refine Lib.wpList_append_run _ rfl _ _ _ _ rfl _ _ rfl rfl _ _ HR4.out ?_)
      go_roundw
      case rel => exact ⟨k + 1, _, _, _, by omega, by go_num, rfl, HN3, HBE2, HANY2, HBL2⟩
      case measure => simp [intOf]; omega
    ·obtain rfl : k = l := by omega
     have HTA : Hid (o.v.take k = o.v) := by show _ = _; rw [← HL.out, List.take_length]
     have HF0 : Hid (F = 0) := by
      show F = 0
      rw [← HF.out]
      unfold opF
      rw [if_neg (by rw [HS.out]; decide), if_neg]
      have h := HANY.out
      rw [HTA.out] at h
      rw [show bigB o = false from h]
      decide
     have HT0 : Hid (T = ⟨(opB o).toArray⟩) := by
      show T = _
      rw [← HT.out]
      unfold opS
      rw [if_pos (HF.out.trans HF0.out)]
     have HBU : Hid (BufB wc.heap.size wr (.slice oo (opB o).length cc) (opB o)) := by
      have h := HBUF.out
      rw [HTA.out] at h
      have h2 := h.len
      show BufB _ _ _ _
      unfold opB
      rw [← h2]
      exact h
     have HNO : Hid ((opB o).length = nn) := by
      have h := HBUF.out.len
      rw [HTA.out] at h
      exact h.symm
     have hcv := HBU.out.back (by unfold opB headB; simp)
     rw [HNO.out] at hcv
     obtain rfl : F = 0 := HF0.out
     obtain rfl : T = ⟨(opB o).toArray⟩ := HT0.out
     clear HF HT HF0 HT0 HBU HNO HTA HBUF HNN HANY HH2 hkl hk
     go_wp2
     go_ret2
     exact ⟨rfl, HB.out.trans (HBL.out.mono HB.out.size)⟩

end Go.Proofs.YtjdnhdcaifogmaaGreatDoor

/- An operation's bytes say it: without memory. -/
namespace Go.Proofs.YtjdnhdcaifogmaaGreatDoor
open Go.RowKit

theorem shapeB_ok {o : OpV} (h : shapeB o = true) : (1 ≤ o.kind ∧ o.kind ≤ 4) ∧ (0 ≤ o.n ∧ o.n ≤ 4) ∧ o.name.size ≤ 8 ∧ o.v.length ≤ 4 := by
 have h2 := shapeB_few h
 unfold shapeB at h
 simp only [Bool.and_eq_true, decide_eq_true_eq] at h
 exact ⟨h.1.1.1, h.1.2, h2⟩

theorem opF_ok {o : OpV} (h : opF o = 0) : shapeB o = true ∧ bigB o = false := by
 unfold opF at h
 cases h1 : shapeB o with
 | false => rw [if_pos h1] at h; cases h
 | true =>
  rw [if_neg (by rw [h1]; decide)] at h
  cases h2 : bigB o with
  | false => exact ⟨rfl, rfl⟩
  | true => rw [if_pos h2] at h; cases h

theorem byt_list (l : List UInt8) (k : Nat) : byt ⟨l.toArray⟩ k = ((l.getD k 0).toNat : Int) := by
 unfold byt
 by_cases h : k < l.length
 ·rw [dif_pos (show k < (⟨l.toArray⟩ : ByteArray).size from h), List.getD_eq_getElem?_getD, List.getElem?_eq_getElem h]
  rfl
 ·rw [dif_neg (show ¬ k < (⟨l.toArray⟩ : ByteArray).size from h), List.getD_eq_getElem?_getD, List.getElem?_eq_none (by omega)]
  rfl

theorem two_len (v : List Int) : (v.flatMap twoB).length = 2 * v.length := by
 induction v with
 | nil => rfl
 | cons z t ih => rw [List.flatMap_cons, List.length_append, ih, List.length_cons]; show 2 + 2 * t.length = _; omega

theorem two_at (v : List Int) (k : Nat) (hk : k < v.length) : (v.flatMap twoB).getD (2 * k) 0 = lowB v[k] ∧ (v.flatMap twoB).getD (2 * k + 1) 0 = lowB (v[k] / 256) := by
 induction v generalizing k with
 | nil => cases hk
 | cons z t ih =>
  rw [List.flatMap_cons]
  show ([lowB z, lowB (z / 256)] ++ t.flatMap twoB).getD _ 0 = _ ∧ ([lowB z, lowB (z / 256)] ++ t.flatMap twoB).getD _ 0 = _
  match k with
  | 0 => exact ⟨rfl, rfl⟩
  | k + 1 =>
   have := ih k (by simpa using hk)
   simpa [Nat.mul_add] using this

theorem s16_two (z : Int) (h1 : -32768 ≤ z) (h2 : z ≤ 32767) : s16 (z % 256 + 256 * (z / 256 % 256)) = z := by
 unfold s16
 split <;> omega

theorem opB_len (o : OpV) : (opB o).length = o.name.size + 4 + 2 * o.v.length := by
 unfold opB headB
 rw [List.length_append, two_len]
 simp

theorem unB_opB {o : OpV} (h : opF o = 0) : unB ⟨(opB o).toArray⟩ = some o := by
 obtain ⟨hs, hb⟩ := opF_ok h
 obtain ⟨⟨k1, k4⟩, ⟨n0, n4⟩, h8, hl4⟩ := shapeB_ok hs
 have hlen := opB_len o
 have hsz : (⟨(opB o).toArray⟩ : ByteArray).size = o.name.size + 4 + 2 * o.v.length := hlen
 have hnl : o.name.data.toList.length = o.name.size := by simp
 obtain ⟨kd, nm, n, v⟩ := o
 dsimp only at *
 have g0 : byt ⟨(opB ⟨kd, nm, n, v⟩).toArray⟩ 0 = kd := by
  rw [byt_list]
  show ((lowB kd).toNat : Int) = kd
  rw [lowB_nat]; omega
 have g1 : byt ⟨(opB ⟨kd, nm, n, v⟩).toArray⟩ 1 = nm.size := by
  rw [byt_list]
  show ((lowB nm.size).toNat : Int) = _
  rw [lowB_nat]; omega
 have e : opB ⟨kd, nm, n, v⟩ = ([lowB kd, lowB nm.size] ++ nm.data.toList) ++ ([lowB n, lowB v.length] ++ v.flatMap twoB) := by
  unfold opB headB
  simp
 have hpre : ([lowB kd, lowB nm.size] ++ nm.data.toList).length = nm.size + 2 := by rw [List.length_append, hnl]; show 2 + _ = _; omega
 have g2 : byt ⟨(opB ⟨kd, nm, n, v⟩).toArray⟩ (nm.size + 2) = n := by
  rw [byt_list, e, List.getD_eq_getElem?_getD, List.getElem?_append_right (by omega), hpre, Nat.sub_self]
  show ((lowB n).toNat : Int) = n
  rw [lowB_nat]; omega
 have g3 : byt ⟨(opB ⟨kd, nm, n, v⟩).toArray⟩ (nm.size + 3) = v.length := by
  rw [byt_list, e, List.getD_eq_getElem?_getD, List.getElem?_append_right (by omega), hpre, show nm.size + 3 - (nm.size + 2) = 1 by omega]
  show ((lowB v.length).toNat : Int) = _
  rw [lowB_nat]; omega
 have g4 : (⟨(opB ⟨kd, nm, n, v⟩).toArray⟩ : ByteArray).extract (nm.size + 4) (⟨(opB ⟨kd, nm, n, v⟩).toArray⟩ : ByteArray).size = ⟨(v.flatMap twoB).toArray⟩ := by
  apply ByteArray.ext
  apply Array.toList_inj.1
  rw [ByteArray.data_extract, Array.toList_extract, hsz]
  show List.take _ (List.drop _ (opB _)) = v.flatMap twoB
  rw [e, ← List.append_assoc, List.drop_append_of_le_length (by rw [List.length_append, hpre]; show _ ≤ _ + 2; omega), List.drop_of_length_le (by rw [List.length_append, hpre]; show _ + 2 ≤ _; omega), List.nil_append, List.take_of_length_le (by rw [two_len]; omega)]
 have g5 : (⟨(opB ⟨kd, nm, n, v⟩).toArray⟩ : ByteArray).extract 2 (nm.size + 2) = nm := by
  apply ByteArray.ext
  apply Array.toList_inj.1
  rw [ByteArray.data_extract, Array.toList_extract]
  show List.take _ (List.drop _ (opB _)) = nm.data.toList
  rw [e, List.append_assoc]
  show List.take (nm.size + 2 - 2) (nm.data.toList ++ _) = _
  rw [List.take_append_of_le_length (by omega), List.take_of_length_le (by omega)]
 unfold unB
 rw [hsz, g1, Int.toNat_natCast, if_neg (by omega), if_neg (by omega), g3, Int.toNat_natCast, if_neg (by omega), g0, g2, g5, ← hsz, g4]
 congr 2
 apply List.ext_getElem (by simp)
 intro i hi1 hi2
 rw [List.getElem_map, List.getElem_range, byt_list, byt_list, (two_at v i hi2).1, (two_at v i hi2).2, lowB_nat, lowB_nat]
 have hm : ¬ (v[i] < -999 ∨ 999 < v[i]) := fun hh => by
  have : bigB ⟨kd, nm, n, v⟩ = true := List.any_eq_true.2 ⟨v[i], List.getElem_mem hi2, decide_eq_true hh⟩
  rw [this] at hb; cases hb
 exact s16_two _ (by omega) (by omega)

end Go.Proofs.YtjdnhdcaifogmaaGreatDoor

/- pack.Unop: bytes as an operation. -/
namespace Go.Proofs.YtjdnhdcaifogmaaGreatDoor
open Go.RowKit

def UnopPost (w : World) (s : ByteArray) (e : Ending) (w' : World) : Prop :=
 (((∀ o, opF o = 0 → opB o ≠ s.data.toList) ∧ e = .returned (.tuple #[.agg #[.int .i64 0, .string ⟨#[]⟩, .int .i64 0, .slice none 0 0], errV 5])) ∨
  ∃ (o : OpV) (vo : Option Addr) (vc : Nat), opF o = 0 ∧ opB o = s.data.toList ∧ e = .returned (.tuple #[.agg #[.int .i64 o.kind, .string o.name, .int .i64 o.n, .slice vo o.v.length vc], .nilIface]) ∧ ∃ base, w.heap.size ≤ base ∧ RowAt base w' vo o.v.length vc o.v) ∧ Below w.heap.size w w'

theorem back_data (s : ByteArray) : (⟨s.data.toList.toArray⟩ : ByteArray) = s := by
 apply ByteArray.ext
 simp

theorem unB_none {s : ByteArray} (h : unB s = none) : ∀ o, opF o = 0 → opB o ≠ s.data.toList := fun o h0 e => by
 have h1 := unB_opB h0
 rw [e, back_data, h] at h1
 cases h1

theorem unB_not {s : ByteArray} {o : OpV} (h : unB s = some o) (hno : opF o ≠ 0 ∨ opS o ≠ s) : ∀ o, opF o = 0 → opB o ≠ s.data.toList := fun o' h0 e => by
 have h1 := unB_opB h0
 rw [e, back_data, h] at h1
 obtain rfl := Option.some.inj h1
 rcases hno with h2 | h2
 ·exact h2 h0
 ·apply h2
  unfold opS
  rw [if_pos h0, e, back_data]

set_option linter.unusedSimpArgs false in
set_option maxRecDepth 100000 in
set_option maxHeartbeats 1600000 in
theorem unop_any (w : World) (s : ByteArray) (hs : s.size ≤ 1000000) : Calls Tryz.prog 16 #[.string s] w fun e w' => UnopPost w s e w' := by
 have HB := hide (alloc_below w (.cells #[.int .i64 0, .string ⟨#[]⟩, .int .i64 0, .slice none 0 0] 46))
 have X2 := hide (BoxQ.new w (.int .i64 0) (.string ⟨#[]⟩) (.int .i64 0) (.slice none 0 0) 46)
 go_enter Tryz.func16, Tryz.ntmps16
 go_wp2_with fail
 generalize w.alloc (.cells #[.int .i64 0, .string ⟨#[]⟩, .int .i64 0, .slice none 0 0] 46) = W0 at *
 refine (unpacked_any W0 s hs).mono ?_
 rintro e w1 ⟨h, hb1⟩
 have X2b := hide (X2.out.later hb1); have HBb := hide (HB.out.trans (hb1.mono HB.out.size))
 have hW0 : w.heap.size < W0.heap.size := X2.out.1.2.2.2.2
 clear hb1 X2 HB
 rcases h with ⟨hn, rfl⟩ | ⟨o, vo, vc, ho, rfl, base, hbase, hrow⟩
 ·have HN := hide (unB_none hn)
  have hbA := alloc_below w1 (.cells #[.int .i64 0, .string ⟨#[]⟩, .int .i64 0, .slice none 0 0] 46)
  have X2c := hide (X2b.out.later hbA); have HBc := hide (HBb.out.trans (hbA.mono HBb.out.size))
  clear hbA X2b HBb hn
  obtain ⟨⟨r0, r1, r2, r3, -⟩, hfz⟩ := X2c.out
  have z0 := hfz 0; have z1 := hfz 1; have z2 := hfz 2; have z3 := hfz 3
  clear hfz
  go_wp2
  exact bodyPost_ret (v := .tuple #[.agg #[.int .i64 0, .string ⟨#[]⟩, .int .i64 0, .slice none 0 0], .iface 71 (.int .i64 5)]) (by simp [results, Tryz.results16, go_sem, r0, r1, r2, r3]) rfl ⟨.inl ⟨HN.out, rfl⟩, by first | exact HBc.out | exact below_fill4 HBc.out (Nat.le_refl _) _ _ _ _⟩
 ·have HO := hide ho; have HROW := hide hrow; have HBA := hide hbase
  have hbA := alloc_below w1 (.cells #[.int .i64 o.kind, .string o.name, .int .i64 o.n, .slice vo o.v.length vc] 46)
  have X4 := hide (BoxQ.new w1 (.int .i64 o.kind) (.string o.name) (.int .i64 o.n) (.slice vo o.v.length vc) 46)
  have X2c := hide (X2b.out.later hbA); have HBc := hide (HBb.out.trans (hbA.mono HBb.out.size)); have HROWc := hide (HROW.out.later hbA)
  clear hbA X2b HBb HROW ho hrow hbase
  obtain ⟨⟨c0, c1, c2, c3, -⟩, -⟩ := X4.out
  go_wp2_with fail
  clear c0 c1 c2 c3
  generalize w1.alloc (.cells #[.int .i64 o.kind, .string o.name, .int .i64 o.n, .slice vo o.v.length vc] 46) = W2 at *
  generalize w1.heap.size = B4 at *
  refine (packOp_any W2 o vo vc HROWc.out.row).mono ?_
  rintro e w3 ⟨rfl, hb3⟩
  have X4d := hide (X4.out.later hb3); have X2d := hide (X2c.out.later hb3); have HBd := hide (HBc.out.trans (hb3.mono HBc.out.size)); have HROWd := hide (HROWc.out.later hb3)
  clear hb3 X4 X2c HBc HROWc
  obtain ⟨⟨r0, r1, r2, r3, -⟩, hfz⟩ := X2d.out
  have z0 := hfz 0; have z1 := hfz 1; have z2 := hfz 2; have z3 := hfz 3
  clear hfz
  obtain ⟨⟨c0, c1, c2, c3, -⟩, -⟩ := X4d.out
  by_cases hF : opF o = 0
  ·by_cases hS : opS o = s
   ·have HFIN : Hid (opB o = s.data.toList) := by
     have h := hS
     unfold opS at h
     rw [if_pos hF] at h
     show _ = _
     rw [← h]
    have HF := hide hF
    rw [hF, hS]
    have e0 : errV 0 = .nilIface := rfl
    rw [e0]
    have hRow : ∀ v0 v1 v2 v3, RowAt base ((((w3.setCell ⟨w.heap.size, 0, none⟩ v0).setCell ⟨w.heap.size, 1, none⟩ v1).setCell ⟨w.heap.size, 2, none⟩ v2).setCell ⟨w.heap.size, 3, none⟩ v3) vo o.v.length vc o.v := fun v0 v1 v2 v3 =>
     have hlt : w.heap.size < base := Nat.lt_of_lt_of_le hW0 HBA.out
     ((((HROWd.out.set (p := ⟨w.heap.size, 0, none⟩) hlt v0).set (p := ⟨w.heap.size, 1, none⟩) hlt v1).set (p := ⟨w.heap.size, 2, none⟩) hlt v2).set (p := ⟨w.heap.size, 3, none⟩) hlt v3)
    have HRR := hide hRow
    clear hF hS e0 hRow
    go_wp2
    exact bodyPost_ret (v := .tuple #[.agg #[.int .i64 o.kind, .string o.name, .int .i64 o.n, .slice vo o.v.length vc], .nilIface]) (by simp [results, Tryz.results16, go_sem, r0, r1, r2, r3]) rfl ⟨.inr ⟨o, vo, vc, HF.out, HFIN.out, rfl, base, by have := HBA.out; omega, HRR.out _ _ _ _⟩, below_fill4 HBd.out (Nat.le_refl _) _ _ _ _⟩
   ·have HN := hide (unB_not HO.out (.inr hS))
    have g1 : ((opS o).toList == s.toList) = false := by rw [toList_beq]; exact decide_eq_false hS
    have g2 : ((opS o).toList != s.toList) = true := by rw [bne, g1]; rfl
    have g3 : decide (opS o = s) = false := decide_eq_false hS
    rw [hF]
    have e0 : errV 0 = .nilIface := rfl
    rw [e0]
    clear hF e0
    go_wp2
    exact bodyPost_ret (v := .tuple #[.agg #[.int .i64 0, .string ⟨#[]⟩, .int .i64 0, .slice none 0 0], .iface 71 (.int .i64 5)]) (by simp [results, Tryz.results16, go_sem, r0, r1, r2, r3]) rfl ⟨.inl ⟨HN.out, rfl⟩, by first | exact HBd.out | exact below_fill4 HBd.out (Nat.le_refl _) _ _ _ _⟩
  ·have HN := hide (unB_not HO.out (.inl hF))
   have e0 : errV (opF o) = .iface 71 (.int .i64 ((opF o : Nat) : Int)) := if_neg hF
   rw [e0]
   clear hF e0
   go_wp2
   exact bodyPost_ret (v := .tuple #[.agg #[.int .i64 0, .string ⟨#[]⟩, .int .i64 0, .slice none 0 0], .iface 71 (.int .i64 5)]) (by simp [results, Tryz.results16, go_sem, r0, r1, r2, r3]) rfl ⟨.inl ⟨HN.out, rfl⟩, by first | exact HBd.out | exact below_fill4 HBd.out (Nat.le_refl _) _ _ _ _⟩

end Go.Proofs.YtjdnhdcaifogmaaGreatDoor

/- Bytes that say an operation are its bytes: without memory. -/
namespace Go.Proofs.YtjdnhdcaifogmaaGreatDoor
open Go.RowKit

theorem byt_data (s : ByteArray) (k : Nat) : byt s k = ((s.data.toList.getD k 0).toNat : Int) := by
 rw [← byt_list, back_data]

theorem extract_data (s : ByteArray) (a b : Nat) : (s.extract a b).data.toList = (s.data.toList.take b).drop a := by
 rw [ByteArray.data_extract, Array.toList_extract, List.extract_eq_take_drop, List.drop_take]

theorem byt_extract (s : ByteArray) (a b j : Nat) (h : a + j < b) : byt (s.extract a b) j = byt s (a + j) := by
 rw [byt_data, byt_data, extract_data, List.getD_eq_getElem?_getD, List.getElem?_drop, List.getElem?_take_of_lt h, List.getD_eq_getElem?_getD]

theorem lowB_byt (s : ByteArray) (k : Nat) : lowB (byt s k) = s.data.toList.getD k 0 := by
 rw [byt_data]
 apply UInt8.toNat_inj.1
 have h := lowB_nat (((s.data.toList.getD k 0).toNat : Nat) : Int)
 have := (s.data.toList.getD k 0).toNat_lt
 omega

theorem s16_low (a b : UInt8) : twoB (s16 ((a.toNat : Int) + 256 * (b.toNat : Int))) = [a, b] := by
 have ha := a.toNat_lt; have hb := b.toNat_lt
 have h1 : lowB (s16 ((a.toNat : Int) + 256 * (b.toNat : Int))) = a := by
  apply UInt8.toNat_inj.1
  have h := lowB_nat (s16 ((a.toNat : Int) + 256 * (b.toNat : Int)))
  unfold s16 at h ⊢
  split at h <;> rename_i hc
  ·rw [if_pos hc]; omega
  ·rw [if_neg hc]; omega
 have h2 : lowB (s16 ((a.toNat : Int) + 256 * (b.toNat : Int)) / 256) = b := by
  apply UInt8.toNat_inj.1
  have h := lowB_nat (s16 ((a.toNat : Int) + 256 * (b.toNat : Int)) / 256)
  unfold s16 at h ⊢
  split at h <;> rename_i hc
  ·rw [if_pos hc]; omega
  ·rw [if_neg hc]; omega
 unfold twoB
 rw [h1, h2]

def twoAt (D : List UInt8) (i : Nat) : Int := s16 (((D.getD (2 * i) 0).toNat : Int) + 256 * ((D.getD (2 * i + 1) 0).toNat : Int))

theorem twoAt_succ (a b : UInt8) (t : List UInt8) (i : Nat) : twoAt (a :: b :: t) (i + 1) = twoAt t i := by
 unfold twoAt
 rw [show 2 * (i + 1) + 1 = (2 * i + 1) + 1 + 1 by omega, show 2 * (i + 1) = 2 * i + 1 + 1 by omega, List.getD_cons_succ, List.getD_cons_succ, List.getD_cons_succ, List.getD_cons_succ]

theorem two_back (m : Nat) : ∀ D : List UInt8, D.length = 2 * m → ((List.range m).map (twoAt D)).flatMap twoB = D := by
 induction m with
 | zero =>
  intro D h
  obtain rfl : D = [] := List.eq_nil_of_length_eq_zero (by omega)
  rfl
 | succ m ih =>
  intro D h
  obtain ⟨a, D1, rfl⟩ : ∃ a t, D = a :: t := by
   cases D with
   | nil => simp at h
   | cons a t => exact ⟨a, t, rfl⟩
  obtain ⟨b, t, rfl⟩ : ∃ b t, D1 = b :: t := by
   cases D1 with
   | nil => simp at h; omega
   | cons b t => exact ⟨b, t, rfl⟩
  have ih := ih t (by simp at h; omega)
  have e : (List.range m).map (twoAt (a :: b :: t) ∘ Nat.succ) = (List.range m).map (twoAt t) := List.map_congr_left fun i _ => by rw [Function.comp_apply, Nat.succ_eq_add_one, twoAt_succ]
  have e0 : twoAt (a :: b :: t) 0 = s16 ((a.toNat : Int) + 256 * (b.toNat : Int)) := by
   unfold twoAt
   rw [Nat.mul_zero, Nat.zero_add, List.getD_cons_zero, List.getD_cons_succ, List.getD_cons_zero]
  rw [List.range_succ_eq_map, List.map_cons, List.flatMap_cons, List.map_map, e, ih, e0, s16_low]
  rfl

theorem opB_unB {s : ByteArray} {o : OpV} (h : unB s = some o) : opB o = s.data.toList := by
 obtain ⟨nl, hnl, hnl255⟩ := byt_nat s 1
 have hnl' : (byt s 1).toNat = nl := by omega
 obtain ⟨mm, hmm, -⟩ := byt_nat s (nl + 3)
 have hmm' : (byt s (nl + 3)).toNat = mm := by omega
 unfold unB at h
 rw [hnl', hmm'] at h
 split at h
 ·cases h
 split at h
 ·cases h
 split at h
 ·cases h
 rename_i h1 h2 h3
 have h3 : s.size - (nl + 4) = 2 * mm := by omega
 have hsz : s.data.toList.length = s.size := by simp
 have hD : (s.extract (nl + 4) s.size).data.toList = s.data.toList.drop (nl + 4) := by
  rw [extract_data, List.take_of_length_le (by omega)]
 have hv : ∀ i, i < mm → s16 (byt (s.extract (nl + 4) s.size) (2 * i) + 256 * byt (s.extract (nl + 4) s.size) (2 * i + 1)) = twoAt (s.data.toList.drop (nl + 4)) i := fun i hi => by
  rw [byt_data, byt_data, hD]
  rfl
 obtain rfl := Option.some.inj h
 have hnm : (s.extract 2 (nl + 2)).size = nl := by rw [ByteArray.size_extract]; omega
 unfold opB headB
 dsimp only
 rw [List.map_congr_left (fun i hi => hv i (List.mem_range.1 hi)), two_back mm _ (by rw [List.length_drop]; omega), List.length_map, List.length_range, hnm, ← hmm, ← hnl, lowB_byt, lowB_byt, lowB_byt, lowB_byt, extract_data]
 generalize s.data.toList = L at *
 apply List.ext_getElem?
 intro i
 have hl1 : (List.drop 2 (List.take (nl + 2) L)).length = nl := by rw [List.length_drop, List.length_take]; omega
 rcases (by omega : i = 0 ∨ i = 1 ∨ (2 ≤ i ∧ i < nl + 2) ∨ i = nl + 2 ∨ i = nl + 3 ∨ nl + 4 ≤ i) with rfl | rfl | ⟨ha, hb⟩ | rfl | rfl | ha
 ·rw [List.getElem?_eq_getElem (show 0 < L.length by omega)]
  simp [List.getD_eq_getElem?_getD, List.getElem?_eq_getElem (show 0 < L.length by omega)]
 ·rw [List.getElem?_eq_getElem (show 1 < L.length by omega)]
  simp [List.getD_eq_getElem?_getD, List.getElem?_eq_getElem (show 1 < L.length by omega)]
 ·rw [List.append_assoc, List.append_assoc, List.getElem?_append_right (by show 2 ≤ i; omega), List.getElem?_append_left (by rw [hl1]; show i - 2 < nl; omega), List.getElem?_drop, List.getElem?_take_of_lt (by show 2 + (i - 2) < _; omega)]
  show L[2 + (i - 2)]? = _
  rw [show 2 + (i - 2) = i by omega]
 ·rw [List.append_assoc, List.getElem?_append_right (by rw [List.length_append, hl1]; show 2 + nl ≤ _; omega), List.length_append, hl1]
  rw [List.getElem?_append_left (by show nl + 2 - (2 + nl) < 2; omega)]
  show [L.getD (nl + 2) 0, L.getD (nl + 3) 0][nl + 2 - (2 + nl)]? = _
  rw [show nl + 2 - (2 + nl) = 0 by omega, List.getElem?_eq_getElem (show nl + 2 < L.length by omega), List.getD_eq_getElem?_getD, List.getElem?_eq_getElem (show nl + 2 < L.length by omega)]
  rfl
 ·rw [List.append_assoc, List.getElem?_append_right (by rw [List.length_append, hl1]; show 2 + nl ≤ _; omega), List.length_append, hl1]
  rw [List.getElem?_append_left (by show nl + 3 - (2 + nl) < 2; omega)]
  show [L.getD (nl + 2) 0, L.getD (nl + 3) 0][nl + 3 - (2 + nl)]? = _
  rw [show nl + 3 - (2 + nl) = 1 by omega, List.getElem?_eq_getElem (show nl + 3 < L.length by omega), List.getD_eq_getElem?_getD, List.getD_eq_getElem?_getD, List.getElem?_eq_getElem (show nl + 3 < L.length by omega)]
  rfl
 ·rw [List.getElem?_append_right (by rw [List.length_append, List.length_append, hl1]; show 2 + nl + 2 ≤ _; omega), List.length_append, List.length_append, hl1, List.getElem?_drop]
  show L[nl + 4 + (i - (2 + nl + 2))]? = _
  rw [show nl + 4 + (i - (2 + nl + 2)) = i by omega]

end Go.Proofs.YtjdnhdcaifogmaaGreatDoor
