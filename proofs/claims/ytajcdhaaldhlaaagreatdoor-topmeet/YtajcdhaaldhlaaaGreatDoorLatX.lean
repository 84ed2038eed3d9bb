/- TopMeet: a vector lies in the meet just if it lies in both. -/
import Derived.Test.YtajcdhaaldhlaaaGreatDoorMeetT
namespace Go.Proofs.YtajcdhaaldhlaaaGreatDoor
open Go.RowKit Limbs Digs

set_option linter.unusedSimpArgs false in
set_option maxRecDepth 100000 in
set_option maxHeartbeats 6400000 in
theorem topMeet_any (w : World) (ht : Tab w) (nA nB : Int) (ga gb : Option Addr) (ca cb : Nat) (ra rb : List (List Int)) (ha : RowsS w (.slice ga ra.length ca) ra) (hb : RowsS w (.slice gb rb.length cb) rb) (vo : Option Addr) (vcap : Nat) (vs : List Int) (hv : RowS w (.slice vo vs.length vcap) vs) :
  Calls Tryz.prog 3 #[.agg #[.int .i64 nA, .slice ga ra.length ca], .agg #[.int .i64 nB, .slice gb rb.length cb], .slice vo vs.length vcap] w fun e w' => e = .returned (.bool true) ∧ Below w.heap.size w w' := by
 have HT := hide ht; have HA := hide ha; have HB := hide hb; have HV := hide hv
 clear ht ha hb hv
 have XA := hide ((BoxL.new w (.int .i64 nA) (.slice ga ra.length ca) 24).later (below_new _ (.cells #[.int .i64 nB, .slice gb rb.length cb] 24)))
 have XB := hide (BoxL.new (w.alloc (.cells #[.int .i64 nA, .slice ga ra.length ca] 24)) (.int .i64 nB) (.slice gb rb.length cb) 24)
 have HBW := hide (((Below.refl w.heap.size w).alloc (Nat.le_refl _) (.cells #[.int .i64 nA, .slice ga ra.length ca] 24)).alloc (by simp) (.cells #[.int .i64 nB, .slice gb rb.length cb] 24))
 have HS1 : Hid ((w.alloc (.cells #[.int .i64 nA, .slice ga ra.length ca] 24)).heap.size = w.heap.size + 1) := by show _ = _; simp
 rw [HS1.out] at XB
 clear HS1
 go_enter Tryz.func3, Tryz.ntmps3
 go_wp2_with fail
 generalize ((w.alloc (.cells #[.int .i64 nA, .slice ga ra.length ca] 24)).alloc (.cells #[.int .i64 nB, .slice gb rb.length cb] 24)) = W0 at *
 refine (ready_any W0 (HT.out.below HBW.out)).mono ?_
 rintro e w1 ⟨rfl, hb1⟩
 have XA' := hide (XA.out.later hb1)
 have XB' := hide (XB.out.later hb1)
 clear XA XB
 have XA := XA'
 have XB := XB'
 clear XA' XB'
 have HBW' := hide (HBW.out.trans (hb1.mono HBW.out.size))
 clear HBW
 have HBW := HBW'
 clear HBW'
 clear hb1
 obtain ⟨a0, a1, a2, a3⟩ := XA.out.1
 obtain ⟨b0, b1, b2, b3⟩ := XB.out.1
 go_wp2_with fail
 refine (two_any w1 nA nB ga gb ca cb ra rb (HA.out.below HBW.out) (HB.out.below HBW.out)).mono ?_
 rintro e w2 ⟨hb2, i1, o1, l1, k1, i2, o2, l2, k2, ok, too, rfl, hg1, hg2⟩
 clear a0 a1 a2 a3 b0 b1 b2 b3
 have XA' := hide (XA.out.later hb2)
 clear XA
 have XA := XA'
 clear XA'
 have HBW' := hide (HBW.out.trans (hb2.mono HBW.out.size))
 clear HBW
 have HBW := HBW'
 clear HBW'
 clear hb2 XB
 have HG1 := hide hg1; have HG2 := hide hg2
 clear hg1 hg2
 have hN1 := below_new w2 (.cells #[.int .i64 i1, .slice o1 l1 k1] 30)
 have hN2 := below_new (w2.alloc (.cells #[.int .i64 i1, .slice o1 l1 k1] 30)) (.cells #[.int .i64 i2, .slice o2 l2 k2] 30)
 have hN3 := hN1.trans (hN2.mono hN1.size)
 have X8 := hide ((BoxL.new w2 (.int .i64 i1) (.slice o1 l1 k1) 30).later hN2)
 have X9 := hide (BoxL.new (w2.alloc (.cells #[.int .i64 i1, .slice o1 l1 k1] 30)) (.int .i64 i2) (.slice o2 l2 k2) 30)
 have HS1 : Hid ((w2.alloc (.cells #[.int .i64 i1, .slice o1 l1 k1] 30)).heap.size = w2.heap.size + 1) := by show _ = _; simp
 rw [HS1.out] at X9
 have HG1' := hide (HG1.out.later hN3); have HG2' := hide (HG2.out.later hN3)
 clear HG1 HG2 HS1
 have HN3 := hide hN3
 clear hN1 hN2 hN3
 have XA' := hide (XA.out.later HN3.out)
 clear XA
 have XA := XA'
 clear XA'
 have HBW' := hide (HBW.out.trans (HN3.out.mono HBW.out.size))
 clear HBW
 have HBW := HBW'
 clear HBW'
 clear HN3
 obtain ⟨a0, a1, a2, a3⟩ := XA.out.1
 generalize hokk : (ok && too && decide (nA = nB)) = okk at *
 have HOK := hide hokk
 clear hokk
 cases okk with
 | false =>
  go_wp2
  go_ret
  exact ⟨rfl, HBW.out⟩
 | true =>
  obtain ⟨h3, h5⟩ : (ok = true ∧ too = true) ∧ nA = nB := by have := HOK.out; simpa using this
  obtain ⟨h3, h4'⟩ := h3
  subst h3 h4'
  rcases HG1'.out with ⟨h, -⟩ | ⟨-, hga, e1, hs, hx, -⟩
  ·cases h
  rcases HG2'.out with ⟨h, -⟩ | ⟨-, hgb, e2, ks, hy, -⟩
  ·cases h
  obtain ⟨h14, -⟩ := good_parts' hga
  obtain ⟨n, hn⟩ := Int.eq_ofNat_of_zero_le (show 0 ≤ nA by omega)
  have hn2 : nB = (n : Int) := h5.symm.trans hn
  clear h5
  subst hn hn2 e1 e2
  have h1 : 1 ≤ n := by omega
  have h4 : n ≤ 4 := by omega
  rw [Int.toNat_natCast] at hx hy
  have LX := hide (LatG.mk hx); have LY := hide (LatG.mk hy)
  clear hx hy hga hgb HG1' HG2' HOK h14
  have hNB := nbM n (by omega)
  have hN4 : n * ((n + n) * 6 + 2 + 2) ≤ 4 * 52 := Nat.mul_le_mul h4 (by omega)
  by_cases hlv : vs.length = n
  ·have HLV := hide hlv
   have f1 : ((vs.length : Int) == (n : Int)) = true := by rw [beq_iff_eq]; omega
   have f2 : ((vs.length : Int) != (n : Int)) = false := by rw [bne_eq_false_iff_eq]; omega
   have hvb : vs.length ≤ 8 := by omega
   clear hlv
   go_wp2
   clear f1 f2 XA
   clear a0 a1 a2 a3
   generalize (w2.alloc (.cells #[.int .i64 (n : Int), .slice o1 l1 k1] 30)).alloc (.cells #[.int .i64 (n : Int), .slice o2 l2 k2] 30) = W3 at *
   generalize w2.heap.size = B8 at *
   go_loopw [10] (fun i wr => ∃ k : Nat, k ≤ vs.length ∧ i = .int .i64 k ∧ wr = W3) (fun i _ => vs.length - (intOf i).toNat)
   case atStart => exact ⟨0, Nat.zero_le _, rfl, rfl⟩
   case round =>
    obtain ⟨k, hk, rfl, hw⟩ := hrel
    subst wr
    by_cases hkl : k < vs.length
    ·have hrow := HV.out.below HBW.out (Nat.le_refl _)
     obtain ⟨ao, cap, e, -, -, hcell⟩ := hrow
     simp only [Value.slice.injEq, true_and] at e
     obtain ⟨rfl, rfl⟩ := e
     obtain ⟨lb, loff, rfl, llt, hcell⟩ := hcell (by omega)
     have cz := hcell k hkl
     generalize vs.getD k 0 = z at *
     clear hcell
     by_cases g1 : z < -1000000
     ·have g2 : decide (z < -1000000) = true := decide_eq_true g1
      go_wp2
      go_ret
      exact ⟨rfl, HBW.out⟩
     ·have g2 : decide (z < -1000000) = false := decide_eq_false g1
      by_cases g3 : 1000000 < z
      ·have g4 : decide (1000000 < z) = true := decide_eq_true g3
       go_wp2
       go_ret
       exact ⟨rfl, HBW.out⟩
      ·have g4 : decide (1000000 < z) = false := decide_eq_false g3
       go_wp2
       go_roundw
       case rel => exact ⟨k + 1, by omega, by go_num, by first | rfl | trivial⟩
       case measure => simp [intOf]; omega
    ·obtain rfl : k = vs.length := by omega
     obtain ⟨a0, a1, a2, a3⟩ := X8.out.1
     obtain ⟨b0, b1, b2, b3⟩ := X9.out.1
     go_wp2_with fail
     clear a0 a1 a2 a3 b0 b1 b2 b3
     refine (meetL_ok W3 _ _ n 6 hs ks (by exact LX.out.lat) (by exact LY.out.lat) h1 h4 hNB).mono ?_
     rintro e w4 ⟨v4, ms, rfl, hl4, hb4, hbo⟩
     have LM := hide (LatG.mk hl4)
     obtain ⟨p4, hF4⟩ := hl4.2
     have HIN := hide (both_in hF4.len hbo)
     have HBO := hide (hbo vs HLV.out)
     obtain ⟨⟨u4, rfl, ⟨o4, k4, rfl, -, -⟩⟩, -⟩ := hl4
     clear hF4 hbo
     have X8' := hide (X8.out.later hb4)
     have X9' := hide (X9.out.later hb4)
     have LX' := hide (LX.out.later hb4)
     have LY' := hide (LY.out.later hb4)
     clear X8 X9 LX LY
     have X8 := X8'
     have X9 := X9'
     have LX := LX'
     have LY := LY'
     clear X8' X9' LX' LY'
     have HBW' := hide (HBW.out.trans (hb4.mono HBW.out.size))
     clear HBW
     have HBW := HBW'
     clear HBW'
     clear hb4
     have hN1 := below_new w4 (.cells #[.int .i64 (n : Int), .slice o4 ms.length k4] 30)
     have X11 := hide (BoxL.new w4 (.int .i64 (n : Int)) (.slice o4 ms.length k4) 30)
     have X8' := hide (X8.out.later hN1)
     have X9' := hide (X9.out.later hN1)
     have LX' := hide (LX.out.later hN1)
     have LY' := hide (LY.out.later hN1)
     have LM' := hide (LM.out.later hN1)
     clear X8 X9 LX LY LM
     have X8 := X8'
     have X9 := X9'
     have LX := LX'
     have LY := LY'
     have LM := LM'
     clear X8' X9' LX' LY' LM'
     have HBW' := hide (HBW.out.trans (hN1.mono HBW.out.size))
     clear HBW
     have HBW := HBW'
     clear HBW'
     clear hN1
     obtain ⟨a0, a1, a2, a3⟩ := X8.out.1
     obtain ⟨b0, b1, b2, b3⟩ := X9.out.1
     obtain ⟨c0, c1, c2, c3⟩ := X11.out.1
     go_wp2_with fail
     clear a0 a1 a2 a3 b0 b1 b2 b3 c0 c1 c2 c3
     generalize w4.alloc (.cells #[.int .i64 (n : Int), .slice o4 ms.length k4] 30) = W5 at *
     generalize w4.heap.size = B11 at *
     refine (inside_any W5 _ _ n ((n + n) * 6 + 2) 6 ms hs (by exact LM.out.lat) (by exact LX.out.lat) h1 h4 (by omega) true ⟨fun _ => HIN.out.1, fun _ => rfl⟩).mono ?_
     rintro e w5 ⟨rfl, hb5⟩
     have X8' := hide (X8.out.later hb5)
     have X9' := hide (X9.out.later hb5)
     have X11' := hide (X11.out.later hb5)
     have LX' := hide (LX.out.later hb5)
     have LY' := hide (LY.out.later hb5)
     have LM' := hide (LM.out.later hb5)
     clear X8 X9 X11 LX LY LM
     have X8 := X8'
     have X9 := X9'
     have X11 := X11'
     have LX := LX'
     have LY := LY'
     have LM := LM'
     clear X8' X9' X11' LX' LY' LM'
     have HBW' := hide (HBW.out.trans (hb5.mono HBW.out.size))
     clear HBW
     have HBW := HBW'
     clear HBW'
     clear hb5
     obtain ⟨a0, a1, a2, a3⟩ := X8.out.1
     obtain ⟨b0, b1, b2, b3⟩ := X9.out.1
     obtain ⟨c0, c1, c2, c3⟩ := X11.out.1
     go_wp2_with fail
     clear a0 a1 a2 a3 b0 b1 b2 b3 c0 c1 c2 c3
     refine (inside_any w5 _ _ n ((n + n) * 6 + 2) 6 ms ks (by exact LM.out.lat) (by exact LY.out.lat) h1 h4 (by omega) true ⟨fun _ => HIN.out.2, fun _ => rfl⟩).mono ?_
     rintro e w6 ⟨rfl, hb6⟩
     have X8' := hide (X8.out.later hb6)
     have X9' := hide (X9.out.later hb6)
     have X11' := hide (X11.out.later hb6)
     have LX' := hide (LX.out.later hb6)
     have LY' := hide (LY.out.later hb6)
     have LM' := hide (LM.out.later hb6)
     clear X8 X9 X11 LX LY LM
     have X8 := X8'
     have X9 := X9'
     have X11 := X11'
     have LX := LX'
     have LY := LY'
     have LM := LM'
     clear X8' X9' X11' LX' LY' LM'
     have HBW' := hide (HBW.out.trans (hb6.mono HBW.out.size))
     clear HBW
     have HBW := HBW'
     clear HBW'
     clear hb6 HIN
     go_wp2_with fail
     refine (ofV_any w6 _ vs (HV.out.below HBW.out (Nat.le_refl _)) (by omega)).mono ?_
     rintro e w7 ⟨P7, rfl, ho7⟩
     have VO := hide (VecG.mk ho7.vec)
     have hb7 := ho7.below
     clear ho7
     have X8' := hide (X8.out.later hb7)
     have X9' := hide (X9.out.later hb7)
     have X11' := hide (X11.out.later hb7)
     have LX' := hide (LX.out.later hb7)
     have LY' := hide (LY.out.later hb7)
     have LM' := hide (LM.out.later hb7)
     clear X8 X9 X11 LX LY LM
     have X8 := X8'
     have X9 := X9'
     have X11 := X11'
     have LX := LX'
     have LY := LY'
     have LM := LM'
     clear X8' X9' X11' LX' LY' LM'
     have HBW' := hide (HBW.out.trans (hb7.mono HBW.out.size))
     clear HBW
     have HBW := HBW'
     clear HBW'
     clear hb7
     obtain ⟨bp, hbp⟩ : ∃ b : Bool, b = true ↔ Gens n (InL hs) vs := by by_cases h : Gens n (InL hs) vs; exact ⟨true, fun _ => h, fun _ => rfl⟩; exact ⟨false, fun e => (by cases e), fun e => absurd e h⟩
     obtain ⟨bq, hbq⟩ : ∃ b : Bool, b = true ↔ Gens n (InL ks) vs := by by_cases h : Gens n (InL ks) vs; exact ⟨true, fun _ => h, fun _ => rfl⟩; exact ⟨false, fun e => (by cases e), fun e => absurd e h⟩
     have hbr : (bp && bq) = true ↔ Gens n (InL ms) vs := by rw [Bool.and_eq_true, hbp, hbq]; exact HBO.out.symm
     have HP := hide hbp; have HQ := hide hbq; have HR := hide hbr
     clear hbp hbq hbr HBO
     obtain ⟨a0, a1, a2, a3⟩ := X8.out.1
     go_wp2_with fail
     clear a0 a1 a2 a3
     refine (member_bool w7 _ _ n 6 2 hs vs (by exact LX.out.lat) (by exact VO.out.vec) HLV.out h1 h4 (by omega) bp HP.out).mono ?_
     rintro e w8 ⟨u8, rfl, hb8⟩
     have X8' := hide (X8.out.later hb8)
     have X9' := hide (X9.out.later hb8)
     have X11' := hide (X11.out.later hb8)
     have LX' := hide (LX.out.later hb8)
     have LY' := hide (LY.out.later hb8)
     have LM' := hide (LM.out.later hb8)
     have VO' := hide (VO.out.later hb8)
     clear X8 X9 X11 LX LY LM VO
     have X8 := X8'
     have X9 := X9'
     have X11 := X11'
     have LX := LX'
     have LY := LY'
     have LM := LM'
     have VO := VO'
     clear X8' X9' X11' LX' LY' LM' VO'
     have HBW' := hide (HBW.out.trans (hb8.mono HBW.out.size))
     clear HBW
     have HBW := HBW'
     clear HBW'
     clear hb8
     obtain ⟨a0, a1, a2, a3⟩ := X9.out.1
     go_wp2_with fail
     clear a0 a1 a2 a3
     refine (member_bool w8 _ _ n 6 2 ks vs (by exact LY.out.lat) (by exact VO.out.vec) HLV.out h1 h4 (by omega) bq HQ.out).mono ?_
     rintro e w9 ⟨u9, rfl, hb9⟩
     have X8' := hide (X8.out.later hb9)
     have X9' := hide (X9.out.later hb9)
     have X11' := hide (X11.out.later hb9)
     have LX' := hide (LX.out.later hb9)
     have LY' := hide (LY.out.later hb9)
     have LM' := hide (LM.out.later hb9)
     have VO' := hide (VO.out.later hb9)
     clear X8 X9 X11 LX LY LM VO
     have X8 := X8'
     have X9 := X9'
     have X11 := X11'
     have LX := LX'
     have LY := LY'
     have LM := LM'
     have VO := VO'
     clear X8' X9' X11' LX' LY' LM' VO'
     have HBW' := hide (HBW.out.trans (hb9.mono HBW.out.size))
     clear HBW
     have HBW := HBW'
     clear HBW'
     clear hb9
     obtain ⟨a0, a1, a2, a3⟩ := X11.out.1
     go_wp2_with fail
     clear a0 a1 a2 a3
     refine (member_bool w9 _ _ n ((n + n) * 6 + 2) 2 ms vs (by exact LM.out.lat) (by exact VO.out.vec) HLV.out h1 h4 (by omega) (bp && bq) HR.out).mono ?_
     rintro e w10 ⟨u10, rfl, hb10⟩
     have HBW' := hide (HBW.out.trans (hb10.mono HBW.out.size))
     clear HBW
     have HBW := HBW'
     clear HBW'
     clear hb10
     clear X8 X9 X11 LX LY LM VO HP HQ HR
     cases bp <;> cases bq <;> (go_wp2; go_ret; exact ⟨rfl, HBW.out⟩)
  ·have f1 : ((vs.length : Int) == (n : Int)) = false := beq_false_of_ne (by omega)
   have f2 : ((vs.length : Int) != (n : Int)) = true := by rw [bne, f1]; rfl
   go_wp2
   go_ret
   exact ⟨rfl, HBW.out⟩

end Go.Proofs.YtajcdhaaldhlaaaGreatDoor
