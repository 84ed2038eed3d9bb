/- TopModular: lattices are modular. -/
import Derived.Test.YtajcdhaaldhlaaaGreatDoorMeetT
namespace Go.Proofs.YtajcdhaaldhlaaaGreatDoor
open Go.RowKit Limbs Digs

theorem nbM2 : ∀ n, n < 5 → nbK (n + n) ((n + n) * (n * 6 + 2) + 2) (n * 6 + 2) (n + n) ≤ 100000 ∧ nbK n (n * ((n + n) * (n * 6 + 2) + 2) + 2) ((n + n) * (n * 6 + 2) + 2) n ≤ 100000 := by decide

set_option linter.unusedSimpArgs false in
set_option maxRecDepth 100000 in
set_option maxHeartbeats 6400000 in
theorem topModular_any (w : World) (ht : Tab w) (nA nB nC : Int) (ga gb gc : Option Addr) (ca cb cc : Nat) (ra rb rc : List (List Int)) (ha : RowsS w (.slice ga ra.length ca) ra) (hb : RowsS w (.slice gb rb.length cb) rb) (hc : RowsS w (.slice gc rc.length cc) rc) :
  Calls Tryz.prog 4 #[.agg #[.int .i64 nA, .slice ga ra.length ca], .agg #[.int .i64 nB, .slice gb rb.length cb], .agg #[.int .i64 nC, .slice gc rc.length cc]] w fun e w' => e = .returned (.bool true) ∧ Below w.heap.size w w' := by
 have HT := hide ht; have HA := hide ha; have HB := hide hb; have HC := hide hc
 clear ht ha hb hc
 have XA := hide (((BoxL.new w (.int .i64 nA) (.slice ga ra.length ca) 24).later (below_new _ (.cells #[.int .i64 nB, .slice gb rb.length cb] 24))).later (below_new _ (.cells #[.int .i64 nC, .slice gc rc.length cc] 24)))
 have XB := hide ((BoxL.new (w.alloc (.cells #[.int .i64 nA, .slice ga ra.length ca] 24)) (.int .i64 nB) (.slice gb rb.length cb) 24).later (below_new _ (.cells #[.int .i64 nC, .slice gc rc.length cc] 24)))
 have XC := hide (BoxL.new ((w.alloc (.cells #[.int .i64 nA, .slice ga ra.length ca] 24)).alloc (.cells #[.int .i64 nB, .slice gb rb.length cb] 24)) (.int .i64 nC) (.slice gc rc.length cc) 24)
 have HBW := hide ((((Below.refl w.heap.size w).alloc (Nat.le_refl _) (.cells #[.int .i64 nA, .slice ga ra.length ca] 24)).alloc (by simp) (.cells #[.int .i64 nB, .slice gb rb.length cb] 24)).alloc (by simp; omega) (.cells #[.int .i64 nC, .slice gc rc.length cc] 24))
 have HS1 : Hid ((w.alloc (.cells #[.int .i64 nA, .slice ga ra.length ca] 24)).heap.size = w.heap.size + 1) := by show _ = _; simp
 have HS2 : Hid (((w.alloc (.cells #[.int .i64 nA, .slice ga ra.length ca] 24)).alloc (.cells #[.int .i64 nB, .slice gb rb.length cb] 24)).heap.size = w.heap.size + 1 + 1) := by show _ = _; simp
 rw [HS1.out] at XB
 rw [HS2.out] at XC
 clear HS1 HS2
 go_enter Tryz.func4, Tryz.ntmps4
 go_wp2_with fail
 generalize (((w.alloc (.cells #[.int .i64 nA, .slice ga ra.length ca] 24)).alloc (.cells #[.int .i64 nB, .slice gb rb.length cb] 24)).alloc (.cells #[.int .i64 nC, .slice gc rc.length cc] 24)) = W0 at *
 refine (ready_any W0 (HT.out.below HBW.out)).mono ?_
 rintro e w1 ⟨rfl, hb1⟩
 have XA' := hide (XA.out.later hb1)
 have XB' := hide (XB.out.later hb1)
 have XC' := hide (XC.out.later hb1)
 clear XA XB XC
 have XA := XA'
 have XB := XB'
 have XC := XC'
 clear XA' XB' XC'
 have HBW' := hide (HBW.out.trans (hb1.mono HBW.out.size))
 clear HBW
 have HBW := HBW'
 clear HBW'
 clear hb1
 obtain ⟨a0, a1, a2, a3⟩ := XA.out.1
 obtain ⟨b0, b1, b2, b3⟩ := XB.out.1
 go_wp2_with fail
 refine (two_any w1 nA nB ga gb ca cb ra rb (HA.out.below HBW.out) (HB.out.below HBW.out)).mono ?_
 rintro e w2 ⟨hb2, i1, o1, l1, k1, i2, o2, l2, k2, ok, too, rfl, hg1, hg2⟩
 clear a0 a1 a2 a3 b0 b1 b2 b3
 have XA' := hide (XA.out.later hb2)
 have XC' := hide (XC.out.later hb2)
 clear XA XC
 have XA := XA'
 have XC := XC'
 clear XA' XC'
 have HBW' := hide (HBW.out.trans (hb2.mono HBW.out.size))
 clear HBW
 have HBW := HBW'
 clear HBW'
 clear hb2 XB
 have HG1 := hide hg1; have HG2 := hide hg2
 clear hg1 hg2
 have hN1 := below_new w2 (.cells #[.int .i64 i1, .slice o1 l1 k1] 30)
 have hN2 := below_new (w2.alloc (.cells #[.int .i64 i1, .slice o1 l1 k1] 30)) (.cells #[.int .i64 i2, .slice o2 l2 k2] 30)
 have hN3 := hN1.trans (hN2.mono hN1.size)
 have X8 := hide ((BoxL.new w2 (.int .i64 i1) (.slice o1 l1 k1) 30).later hN2)
 have X9 := hide (BoxL.new (w2.alloc (.cells #[.int .i64 i1, .slice o1 l1 k1] 30)) (.int .i64 i2) (.slice o2 l2 k2) 30)
 have HS1 : Hid ((w2.alloc (.cells #[.int .i64 i1, .slice o1 l1 k1] 30)).heap.size = w2.heap.size + 1) := by show _ = _; simp
 rw [HS1.out] at X9
 have HG1' := hide (HG1.out.later hN3); have HG2' := hide (HG2.out.later hN3)
 clear HG1 HG2 HS1
 have HN3 := hide hN3
 clear hN1 hN2 hN3
 have XA' := hide (XA.out.later HN3.out)
 have XC' := hide (XC.out.later HN3.out)
 clear XA XC
 have XA := XA'
 have XC := XC'
 clear XA' XC'
 have HBW' := hide (HBW.out.trans (HN3.out.mono HBW.out.size))
 clear HBW
 have HBW := HBW'
 clear HBW'
 clear HN3
 obtain ⟨a0, a1, a2, a3⟩ := XC.out.1
 generalize hokk : (ok && too && decide (nA = nB)) = okk at *
 have HOK := hide hokk
 clear hokk
 go_wp2_with fail
 clear a0 a1 a2 a3
 generalize hW3 : (w2.alloc (.cells #[.int .i64 i1, .slice o1 l1 k1] 30)).alloc (.cells #[.int .i64 i2, .slice o2 l2 k2] 30) = W3 at *
 clear hW3
 generalize w2.heap.size = B8 at *
 refine (made_one_shape W3 nC gc cc rc (HC.out.below HBW.out)).mono ?_
 rintro e w3 ⟨hb3, i5, o0, l0, k0, m0, okc, rfl, hg5⟩
 have HG5 := hide hg5
 clear hg5
 have XA' := hide (XA.out.later hb3)
 have XC' := hide (XC.out.later hb3)
 have X8' := hide (X8.out.later hb3)
 have X9' := hide (X9.out.later hb3)
 have HG1q := hide (HG1'.out.later hb3)
 have HG2q := hide (HG2'.out.later hb3)
 clear XA XC X8 X9 HG1' HG2'
 have XA := XA'
 have XC := XC'
 have X8 := X8'
 have X9 := X9'
 have HG1' := HG1q
 have HG2' := HG2q
 clear XA' XC' X8' X9' HG1q HG2q
 have HBW' := hide (HBW.out.trans (hb3.mono HBW.out.size))
 clear HBW
 have HBW := HBW'
 clear HBW'
 clear hb3
 have hN1 := below_new w3 (.cells #[.int .i64 i5, .slice o0 l0 k0] 30)
 have X10 := hide (BoxL.new w3 (.int .i64 i5) (.slice o0 l0 k0) 30)
 have H10 : Hid (w.heap.size ≤ w3.heap.size) := HBW.out.size
 have H810 : Hid (B8 ≠ w3.heap.size) := Nat.ne_of_lt X8.out.2
 have H910 : Hid (B8 + 1 ≠ w3.heap.size) := Nat.ne_of_lt X9.out.2
 have HM1 := hide HG1'.out; have HM2 := hide HG2'.out
 have XA' := hide (XA.out.later hN1)
 have XC' := hide (XC.out.later hN1)
 have X8' := hide (X8.out.later hN1)
 have X9' := hide (X9.out.later hN1)
 have HG1q := hide (HG1'.out.later hN1)
 have HG2q := hide (HG2'.out.later hN1)
 have HG5' := hide (HG5.out.later hN1)
 clear XA XC X8 X9 HG1' HG2' HG5
 have XA := XA'
 have XC := XC'
 have X8 := X8'
 have X9 := X9'
 have HG1' := HG1q
 have HG2' := HG2q
 have HG5 := HG5'
 clear XA' XC' X8' X9' HG1q HG2q HG5'
 have HBW' := hide (HBW.out.trans (hN1.mono HBW.out.size))
 clear HBW
 have HBW := HBW'
 clear HBW'
 clear hN1
 obtain ⟨a0, a1, a2, a3⟩ := XA.out.1
 obtain ⟨b0, b1, b2, b3⟩ := XC.out.1
 cases okk with
 | false =>
  go_wp2
  go_ret
  exact ⟨rfl, HBW.out⟩
 | true =>
  cases okc with
  | false =>
   go_wp2
   go_ret
   exact ⟨rfl, HBW.out⟩
  | true =>
   by_cases hnc : nC = nA
   ·subst hnc
    obtain ⟨h3, h5⟩ : (ok = true ∧ too = true) ∧ nC = nB := by have := HOK.out; simpa using this
    obtain ⟨h3, h4'⟩ := h3
    subst h3 h4'
    rcases HG1'.out with ⟨h, -⟩ | ⟨-, hga, e1, hs, hx, -⟩
    ·cases h
    rcases HG2'.out with ⟨h, -⟩ | ⟨-, hgb, e2, ks, hy, -⟩
    ·cases h
    rcases HG5.out with ⟨h, -⟩ | ⟨-, hgc, e5, zs, hz, -⟩
    ·cases h
    obtain ⟨h14, -⟩ := good_parts' hga
    obtain ⟨n, hn⟩ := Int.eq_ofNat_of_zero_le (show 0 ≤ nC by omega)
    have hn2 : nB = (n : Int) := h5.symm.trans hn
    clear h5
    subst hn hn2 e1 e2 e5
    have h1 : 1 ≤ n := by omega
    have h4 : n ≤ 4 := by omega
    rw [Int.toNat_natCast] at hx hy hz
    have SPX : Hid (0 < hs.length → Sep (.slice o1 l1 k1) (some w3.heap.size)) := by
     rcases HM1.out with ⟨h, -⟩ | ⟨-, -, -, hs', hx', -⟩
     ·cases h
     rw [Int.toNat_natCast] at hx'
     exact fun h0 => hx'.sep (Nat.le_refl _) (by rw [← lat_length hx hx']; exact h0)
    have SPY : Hid (0 < ks.length → Sep (.slice o2 l2 k2) (some w3.heap.size)) := by
     rcases HM2.out with ⟨h, -⟩ | ⟨-, -, -, ks', hy', -⟩
     ·cases h
     rw [Int.toNat_natCast] at hy'
     exact fun h0 => hy'.sep (Nat.le_refl _) (by rw [← lat_length hy hy']; exact h0)
    have LX := hide (LatG.mk hx); have LY := hide (LatG.mk hy); have LZ := hide (LatG.mk hz)
    obtain ⟨p, hFx⟩ := hx.2
    have HLX := hide hFx.len
    clear hx hy hz hga hgb hgc hFx HG1' HG2' HG5 HOK h14 HM1 HM2
    have hNB := nb6 n (by omega)
    have hNB2 := (nbM2 n (by omega)).1
    have hNB3 := (nbM2 n (by omega)).2
    have hNP : 6 ≤ n * 6 + 2 := by omega
    have hNQ : 6 ≤ ((n + n) * (n * 6 + 2) + 2) := by have : 1 * (n * 6 + 2) ≤ (n + n) * (n * 6 + 2) := Nat.mul_le_mul_right _ (by omega); omega
    obtain ⟨c0, c1, c2, c3⟩ := X8.out.1
    obtain ⟨d0, d1, d2, d3⟩ := X10.out.1
    go_wp2_with fail
    clear a0 a1 a2 a3 b0 b1 b2 b3 c0 c1 c2 c3 d0 d1 d2 d3
    clear XA XC
    generalize w3.alloc (.cells #[.int .i64 (n : Int), .slice o0 l0 k0] 30) = W4 at *
    generalize w3.heap.size = B10 at *
    refine (sumL_ok W4 _ _ n 6 zs hs (by exact LZ.out.lat) (by exact LX.out.lat) h1 h4 hNB).mono ?_
    rintro e w5 ⟨v5, ts, rfl, hl5, hb5, ha5, hfr5⟩
    have HAZ := hide ha5
    have LS := hide (LatG.mk hl5)
    obtain ⟨⟨u5, rfl, ⟨o5, k5, rfl, -, -⟩⟩, -⟩ := hl5
    have HSP : Hid (0 < ts.length → Sep (.slice o5 ts.length k5) (some B10)) := fun _ => (hfr5 _ rfl).sep X10.out.2
    clear ha5 hfr5 LZ
    have X8' := hide (X8.out.later hb5)
    have X9' := hide (X9.out.later hb5)
    have X10' := hide (X10.out.later hb5)
    have LX' := hide (LX.out.later hb5)
    have LY' := hide (LY.out.later hb5)
    clear X8 X9 X10 LX LY
    have X8 := X8'
    have X9 := X9'
    have X10 := X10'
    have LX := LX'
    have LY := LY'
    clear X8' X9' X10' LX' LY'
    have HBW' := hide (HBW.out.trans (hb5.mono HBW.out.size))
    clear HBW
    have HBW := HBW'
    clear HBW'
    clear hb5
    have HBW' := hide ((HBW.out.setCell (p := ⟨B10, 0, none⟩) H10.out (.int .i64 (n : Int))).setCell (p := ⟨B10, 1, none⟩) H10.out (.slice o5 ts.length k5))
    have X8' := hide (X8.out.other H810.out (.int .i64 (n : Int)) (.slice o5 ts.length k5))
    have X9' := hide (X9.out.other H910.out (.int .i64 (n : Int)) (.slice o5 ts.length k5))
    have X10' := hide (X10.out.write (.int .i64 (n : Int)) (.slice o5 ts.length k5))
    have LX' := hide (LatG.mk (LX.out.lat.setVar (.int .i64 (n : Int)) (.slice o5 ts.length k5) SPX.out X10.out.1.1 X10.out.1.2.1))
    have LY' := hide (LatG.mk (LY.out.lat.setVar (.int .i64 (n : Int)) (.slice o5 ts.length k5) SPY.out X10.out.1.1 X10.out.1.2.1))
    have LS' := hide (LatG.mk (LS.out.lat.setVar (.int .i64 (n : Int)) (.slice o5 ts.length k5) HSP.out X10.out.1.1 X10.out.1.2.1))
    obtain ⟨c0, c1, c2, c3⟩ := X10.out.1
    clear X8 X9 X10 LX LY LS HBW HSP SPX SPY
    have X8 := X8'; have X9 := X9'; have X10 := X10'; have LX := LX'; have LY := LY'; have LS := LS'; have HBW := HBW'
    clear X8' X9' X10' LX' LY' LS' HBW'
    obtain ⟨a0, a1, a2, a3⟩ := X9.out.1
    obtain ⟨b0, b1, b2, b3⟩ := X10.out.1
    go_wp2_with fail
    clear a0 a1 a2 a3 b0 b1 b2 b3 c0 c1 c2 c3
    generalize (w5.setCell ⟨B10, 0, none⟩ (.int .i64 (n : Int))).setCell ⟨B10, 1, none⟩ (.slice o5 ts.length k5) = W5 at *
    refine (meetL_ok W5 _ _ n (n * 6 + 2) ks ts (by exact LY.out.lat.mono (by omega)) (by exact LS.out.lat) h1 h4 hNB2).mono ?_
    rintro e w6 ⟨v6, ps, rfl, hl6, hb6, hbo6⟩
    have HBP := hide hbo6
    have LP := hide (LatG.mk hl6)
    obtain ⟨p6, hF6⟩ := hl6.2
    have HLP := hide hF6.len
    obtain ⟨⟨u6, rfl, ⟨o6, k6, rfl, -, -⟩⟩, -⟩ := hl6
    clear hF6 hbo6
    have X8' := hide (X8.out.later hb6)
    have X9' := hide (X9.out.later hb6)
    have X10' := hide (X10.out.later hb6)
    have LX' := hide (LX.out.later hb6)
    have LY' := hide (LY.out.later hb6)
    have LS' := hide (LS.out.later hb6)
    clear X8 X9 X10 LX LY LS
    have X8 := X8'
    have X9 := X9'
    have X10 := X10'
    have LX := LX'
    have LY := LY'
    have LS := LS'
    clear X8' X9' X10' LX' LY' LS'
    have HBW' := hide (HBW.out.trans (hb6.mono HBW.out.size))
    clear HBW
    have HBW := HBW'
    clear HBW'
    clear hb6
    have hN1 := below_new w6 (.cells #[.int .i64 (n : Int), .slice o6 ps.length k6] 30)
    have X14 := hide (BoxL.new w6 (.int .i64 (n : Int)) (.slice o6 ps.length k6) 30)
    have X8' := hide (X8.out.later hN1)
    have X9' := hide (X9.out.later hN1)
    have X10' := hide (X10.out.later hN1)
    have LX' := hide (LX.out.later hN1)
    have LY' := hide (LY.out.later hN1)
    have LS' := hide (LS.out.later hN1)
    have LP' := hide (LP.out.later hN1)
    clear X8 X9 X10 LX LY LS LP
    have X8 := X8'
    have X9 := X9'
    have X10 := X10'
    have LX := LX'
    have LY := LY'
    have LS := LS'
    have LP := LP'
    clear X8' X9' X10' LX' LY' LS' LP'
    have HBW' := hide (HBW.out.trans (hN1.mono HBW.out.size))
    clear HBW
    have HBW := HBW'
    clear HBW'
    clear hN1
    obtain ⟨a0, a1, a2, a3⟩ := X8.out.1
    obtain ⟨b0, b1, b2, b3⟩ := X14.out.1
    go_wp2_with fail
    clear a0 a1 a2 a3 b0 b1 b2 b3
    generalize w6.alloc (.cells #[.int .i64 (n : Int), .slice o6 ps.length k6] 30) = W6 at *
    generalize w6.heap.size = B14 at *
    refine (sumL_ok W6 _ _ n ((n + n) * (n * 6 + 2) + 2) hs ps (by exact LX.out.lat.mono (by omega)) (by exact LP.out.lat) h1 h4 hNB3).mono ?_
    rintro e w7 ⟨v7, qs, rfl, hl7, hb7, ha7, -⟩
    have HAQ := hide ha7
    have LQ := hide (LatG.mk hl7)
    obtain ⟨p7, hF7⟩ := hl7.2
    have HFQ := hide hF7
    obtain ⟨⟨u7, rfl, ⟨o7, k7, rfl, -, -⟩⟩, -⟩ := hl7
    clear hF7 ha7 LP X14
    have X8' := hide (X8.out.later hb7)
    have X9' := hide (X9.out.later hb7)
    have X10' := hide (X10.out.later hb7)
    have LX' := hide (LX.out.later hb7)
    have LY' := hide (LY.out.later hb7)
    have LS' := hide (LS.out.later hb7)
    clear X8 X9 X10 LX LY LS
    have X8 := X8'
    have X9 := X9'
    have X10 := X10'
    have LX := LX'
    have LY := LY'
    have LS := LS'
    clear X8' X9' X10' LX' LY' LS'
    have HBW' := hide (HBW.out.trans (hb7.mono HBW.out.size))
    clear HBW
    have HBW := HBW'
    clear HBW'
    clear hb7
    have hN1 := below_new w7 (.cells #[.int .i64 (n : Int), .slice o7 qs.length k7] 30)
    have X16 := hide (BoxL.new w7 (.int .i64 (n : Int)) (.slice o7 qs.length k7) 30)
    have X8' := hide (X8.out.later hN1)
    have X9' := hide (X9.out.later hN1)
    have X10' := hide (X10.out.later hN1)
    have LX' := hide (LX.out.later hN1)
    have LY' := hide (LY.out.later hN1)
    have LS' := hide (LS.out.later hN1)
    have LQ' := hide (LQ.out.later hN1)
    clear X8 X9 X10 LX LY LS LQ
    have X8 := X8'
    have X9 := X9'
    have X10 := X10'
    have LX := LX'
    have LY := LY'
    have LS := LS'
    have LQ := LQ'
    clear X8' X9' X10' LX' LY' LS' LQ'
    have HBW' := hide (HBW.out.trans (hN1.mono HBW.out.size))
    clear HBW
    have HBW := HBW'
    clear HBW'
    clear hN1
    obtain ⟨a0, a1, a2, a3⟩ := X8.out.1
    obtain ⟨b0, b1, b2, b3⟩ := X9.out.1
    go_wp2_with fail
    clear a0 a1 a2 a3 b0 b1 b2 b3
    generalize w7.alloc (.cells #[.int .i64 (n : Int), .slice o7 qs.length k7] 30) = W7 at *
    generalize w7.heap.size = B16 at *
    refine (sumL_ok W7 _ _ n 6 hs ks (by exact LX.out.lat) (by exact LY.out.lat) h1 h4 hNB).mono ?_
    rintro e w8 ⟨v8, rs, rfl, hl8, hb8, ha8, -⟩
    have HAR := hide ha8
    have LR := hide (LatG.mk hl8)
    obtain ⟨⟨u8, rfl, ⟨o8, k8, rfl, -, -⟩⟩, -⟩ := hl8
    clear ha8 LX LY X8 X9
    have X10' := hide (X10.out.later hb8)
    have X16' := hide (X16.out.later hb8)
    have LS' := hide (LS.out.later hb8)
    have LQ' := hide (LQ.out.later hb8)
    clear X10 X16 LS LQ
    have X10 := X10'
    have X16 := X16'
    have LS := LS'
    have LQ := LQ'
    clear X10' X16' LS' LQ'
    have HBW' := hide (HBW.out.trans (hb8.mono HBW.out.size))
    clear HBW
    have HBW := HBW'
    clear HBW'
    clear hb8
    have hN1 := below_new w8 (.cells #[.int .i64 (n : Int), .slice o8 rs.length k8] 30)
    have X18 := hide (BoxL.new w8 (.int .i64 (n : Int)) (.slice o8 rs.length k8) 30)
    have X10' := hide (X10.out.later hN1)
    have X16' := hide (X16.out.later hN1)
    have LS' := hide (LS.out.later hN1)
    have LQ' := hide (LQ.out.later hN1)
    have LR' := hide (LR.out.later hN1)
    clear X10 X16 LS LQ LR
    have X10 := X10'
    have X16 := X16'
    have LS := LS'
    have LQ := LQ'
    have LR := LR'
    clear X10' X16' LS' LQ' LR'
    have HBW' := hide (HBW.out.trans (hN1.mono HBW.out.size))
    clear HBW
    have HBW := HBW'
    clear HBW'
    clear hN1
    obtain ⟨a0, a1, a2, a3⟩ := X10.out.1
    obtain ⟨b0, b1, b2, b3⟩ := X18.out.1
    go_wp2_with fail
    clear a0 a1 a2 a3 b0 b1 b2 b3
    generalize w8.alloc (.cells #[.int .i64 (n : Int), .slice o8 rs.length k8] 30) = W8 at *
    generalize w8.heap.size = B18 at *
    refine (meetL_ok W8 _ _ n (n * 6 + 2) rs ts (by exact LR.out.lat) (by exact LS.out.lat) h1 h4 hNB2).mono ?_
    rintro e w9 ⟨v9, ss, rfl, hl9, hb9, hbo9⟩
    have LM := hide (LatG.mk hl9)
    obtain ⟨p9, hF9⟩ := hl9.2
    have HE := hide (modular HLX.out HLP.out HFQ.out hF9 HAZ.out HBP.out HAQ.out HAR.out hbo9)
    obtain ⟨⟨u9, rfl, ⟨o9, k9, rfl, -, -⟩⟩, -⟩ := hl9
    clear hF9 hbo9 HAZ HBP HAQ HAR HFQ HLP LR LS X10 X18
    have X16' := hide (X16.out.later hb9)
    have LQ' := hide (LQ.out.later hb9)
    clear X16 LQ
    have X16 := X16'
    have LQ := LQ'
    clear X16' LQ'
    have HBW' := hide (HBW.out.trans (hb9.mono HBW.out.size))
    clear HBW
    have HBW := HBW'
    clear HBW'
    clear hb9
    have hN1 := below_new w9 (.cells #[.int .i64 (n : Int), .slice o9 ss.length k9] 30)
    have X20 := hide (BoxL.new w9 (.int .i64 (n : Int)) (.slice o9 ss.length k9) 30)
    have X16' := hide (X16.out.later hN1)
    have LQ' := hide (LQ.out.later hN1)
    have LM' := hide (LM.out.later hN1)
    clear X16 LQ LM
    have X16 := X16'
    have LQ := LQ'
    have LM := LM'
    clear X16' LQ' LM'
    have HBW' := hide (HBW.out.trans (hN1.mono HBW.out.size))
    clear HBW
    have HBW := HBW'
    clear HBW'
    clear hN1
    obtain ⟨a0, a1, a2, a3⟩ := X16.out.1
    obtain ⟨b0, b1, b2, b3⟩ := X20.out.1
    go_wp2_with fail
    clear a0 a1 a2 a3 b0 b1 b2 b3
    generalize w9.alloc (.cells #[.int .i64 (n : Int), .slice o9 ss.length k9] 30) = W9 at *
    generalize w9.heap.size = B20 at *
    refine (alikeB_any W9 _ _ n (n * ((n + n) * (n * 6 + 2) + 2) + 2) ((n + n) * (n * 6 + 2) + 2) qs ss (by exact LQ.out.lat) (by exact LM.out.lat) (by omega)).mono ?_
    rintro e wz ⟨rfl, hbz⟩
    rw [decide_eq_true HE.out]
    have HBW' := hide (HBW.out.trans (hbz.mono HBW.out.size))
    clear HBW
    have HBW := HBW'
    clear HBW'
    clear hbz HE LQ LM X16 X20
    go_wp2
    go_ret
    exact ⟨rfl, HBW.out⟩
   ·have g1 : ((nC : Int) == nA) = false := beq_false_of_ne hnc
    have g2 : ((nC : Int) != nA) = true := by rw [bne, g1]; rfl
    have g3 : decide (nC = nA) = false := decide_eq_false hnc
    go_wp2
    go_ret
    exact ⟨rfl, HBW.out⟩

end Go.Proofs.YtajcdhaaldhlaaaGreatDoor
