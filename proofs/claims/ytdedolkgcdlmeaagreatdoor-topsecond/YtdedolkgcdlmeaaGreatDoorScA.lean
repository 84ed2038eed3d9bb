/- TopSecond: NOETHER. -/
import Derived.Test.YtdedolkgcdlmeaaGreatDoorScB
import Derived.Test.YtdedolkgcdlmeaaGreatDoorLatM
import Derived.Test.YtdedolkgcdlmeaaGreatDoorLatT
namespace Go.Proofs.YtdedolkgcdlmeaaGreatDoor
open Go.RowKit Limbs Digs

set_option linter.unusedSimpArgs false in
set_option maxRecDepth 100000 in
set_option maxHeartbeats 6400000 in
theorem topSecond_any (w : World) (ht : Tab w) (nA nB : Int) (ga gb : Option Addr) (ca cb : Nat) (ra rb : List (List Int)) (ha : RowsS w (.slice ga ra.length ca) ra) (hb : RowsS w (.slice gb rb.length cb) rb) :
    Calls Tryz.prog 8 #[.agg #[.int .i64 nA, .slice ga ra.length ca], .agg #[.int .i64 nB, .slice gb rb.length cb]] w fun e w' => e = .returned (.bool true) ∧ Below w.heap.size w w' := by
  have HT := hide ht; have HA := hide ha; have HB := hide hb
  clear ht ha hb
  have XA := hide ((BoxL.new w (.int .i64 nA) (.slice ga ra.length ca) 53).later (below_new _ (.cells #[.int .i64 nB, .slice gb rb.length cb] 53)))
  have XB := hide (BoxL.new (w.alloc (.cells #[.int .i64 nA, .slice ga ra.length ca] 53)) (.int .i64 nB) (.slice gb rb.length cb) 53)
  have HBW := hide (((Below.refl w.heap.size w).alloc (Nat.le_refl _) (.cells #[.int .i64 nA, .slice ga ra.length ca] 53)).alloc (by simp) (.cells #[.int .i64 nB, .slice gb rb.length cb] 53))
  have HS1 : Hid ((w.alloc (.cells #[.int .i64 nA, .slice ga ra.length ca] 53)).heap.size = w.heap.size + 1) := by show _ = _; simp
  rw [HS1.out] at XB
  clear HS1
  go_enter Tryz.func8, Tryz.ntmps8
  go_wp2_with fail
  generalize ((w.alloc (.cells #[.int .i64 nA, .slice ga ra.length ca] 53)).alloc (.cells #[.int .i64 nB, .slice gb rb.length cb] 53)) = W0 at *
  refine (ready_any W0 (HT.out.below HBW.out)).mono ?_
  rintro e w1 ⟨rfl, hb1⟩
  have XA' := hide (XA.out.later hb1)
  have XB' := hide (XB.out.later hb1)
  clear XA XB
  have XA := XA'
  have XB := XB'
  clear XA' XB'
  have HBW' := hide (HBW.out.trans (hb1.mono HBW.out.size))
  clear HBW
  have HBW := HBW'
  clear HBW'
  clear hb1
  obtain ⟨a0, a1, a2, a3⟩ := XA.out.1
  obtain ⟨b0, b1, b2, b3⟩ := XB.out.1
  go_wp2_with fail
  refine (two_any w1 nA nB ga gb ca cb ra rb (HA.out.below HBW.out) (HB.out.below HBW.out)).mono ?_
  rintro e w2 ⟨hb2, i1, o1, l1, k1, i2, o2, l2, k2, ok, too, rfl, hg1, hg2⟩
  clear a0 a1 a2 a3 b0 b1 b2 b3
  have HBW' := hide (HBW.out.trans (hb2.mono HBW.out.size))
  clear HBW
  have HBW := HBW'
  clear HBW'
  have HW2 : Hid (w.heap.size ≤ w2.heap.size) := HBW.out.size
  clear hb2 XB XA
  have HG1 := hide hg1; have HG2 := hide hg2
  clear hg1 hg2
  have hN1 := below_new w2 (.cells #[.int .i64 i1, .slice o1 l1 k1] 55)
  have hN2 := below_new (w2.alloc (.cells #[.int .i64 i1, .slice o1 l1 k1] 55)) (.cells #[.int .i64 i2, .slice o2 l2 k2] 55)
  have hN3 := hN1.trans (hN2.mono hN1.size)
  have X8 := hide ((BoxL.new w2 (.int .i64 i1) (.slice o1 l1 k1) 55).later hN2)
  have X9 := hide (BoxL.new (w2.alloc (.cells #[.int .i64 i1, .slice o1 l1 k1] 55)) (.int .i64 i2) (.slice o2 l2 k2) 55)
  have HS1 : Hid ((w2.alloc (.cells #[.int .i64 i1, .slice o1 l1 k1] 55)).heap.size = w2.heap.size + 1) := by show _ = _; simp
  rw [HS1.out] at X9
  have HG1' := hide (HG1.out.later hN3); have HG2' := hide (HG2.out.later hN3)
  clear HG1 HG2 HS1
  have HN3 := hide hN3
  clear hN1 hN2 hN3
  have HBW' := hide (HBW.out.trans (HN3.out.mono HBW.out.size))
  clear HBW
  have HBW := HBW'
  clear HBW'
  clear HN3
  generalize hokk : (ok && too && decide (nA = nB)) = okk at *
  have HOK := hide hokk
  clear hokk
  cases okk with
  | false =>
    go_wp2
    go_ret
    exact ⟨rfl, HBW.out⟩
  | true =>
    obtain ⟨h3, h5⟩ : (ok = true ∧ too = true) ∧ nA = nB := by have := HOK.out; simpa using this
    obtain ⟨h3, h4'⟩ := h3
    subst h3 h4'
    rcases HG1'.out with ⟨h, -⟩ | ⟨-, hga, e1, hs, hx, -⟩
    · cases h
    rcases HG2'.out with ⟨h, -⟩ | ⟨-, hgb, e2, ks, hy, -⟩
    · cases h
    obtain ⟨h14, -⟩ := good_parts' hga
    obtain ⟨n, hn⟩ := Int.eq_ofNat_of_zero_le (show 0 ≤ nA by omega)
    have hn2 : nB = (n : Int) := h5.symm.trans hn
    clear h5
    subst hn hn2 e1 e2
    have h1 : 1 ≤ n := by omega
    have h4 : n ≤ 4 := by omega
    rw [Int.toNat_natCast] at hx hy
    have hll1 : l1 = hs.length := by
      obtain ⟨⟨u, e, ⟨_, _, rfl, -, -⟩⟩, -⟩ := hx
      simp only [Value.agg.injEq, Array.mk.injEq, List.cons.injEq, Value.slice.injEq, and_true, true_and] at e
      exact e.2.1
    subst hll1
    have hll2 : l2 = ks.length := by
      obtain ⟨⟨u, e, ⟨_, _, rfl, -, -⟩⟩, -⟩ := hy
      simp only [Value.agg.injEq, Array.mk.injEq, List.cons.injEq, Value.slice.injEq, and_true, true_and] at e
      exact e.2.1
    subst hll2
    have LX := hide (LatG.mk hx); have LY := hide (LatG.mk hy)
    obtain ⟨ph, hFx⟩ := hx.2
    obtain ⟨pk, hFy⟩ := hy.2
    have HFX := hide hFx; have HFY := hide hFy
    clear hx hy hga hgb HG1' HG2' HOK h14 hFx hFy
    have hNB := nb6 n (by omega)
    have hNM := nbM n (by omega)
    obtain ⟨c0, c1, c2, c3⟩ := X8.out.1
    obtain ⟨d0, d1, d2, d3⟩ := X9.out.1
    go_wp2_with fail
    clear c0 c1 c2 c3 d0 d1 d2 d3
    generalize (w2.alloc (.cells #[.int .i64 (n : Int), .slice o1 hs.length k1] 55)).alloc (.cells #[.int .i64 (n : Int), .slice o2 ks.length k2] 55) = W3 at *
    clear HW2
    generalize w2.heap.size = B6 at *
    refine (sumL_ok W3 _ _ n 6 hs ks (by exact LX.out.lat) (by exact LY.out.lat) h1 h4 hNB).mono ?_
    rintro e w5 ⟨v5, ss, rfl, hl5, hb5, ha5, -⟩
    have HAS := hide ha5
    have LS := hide (LatG.mk hl5)
    obtain ⟨ps, hFs⟩ := hl5.2
    have HFS := hide hFs
    obtain ⟨⟨u5, rfl, ⟨o3, k3, rfl, -, -⟩⟩, -⟩ := hl5
    clear ha5 hFs
    have X8' := hide (X8.out.later hb5)
    have X9' := hide (X9.out.later hb5)
    have LX' := hide (LX.out.later hb5)
    have LY' := hide (LY.out.later hb5)
    clear X8 X9 LX LY
    have X8 := X8'
    have X9 := X9'
    have LX := LX'
    have LY := LY'
    clear X8' X9' LX' LY'
    have HBW' := hide (HBW.out.trans (hb5.mono HBW.out.size))
    clear HBW
    have HBW := HBW'
    clear HBW'
    clear hb5
    have hN1 := below_new w5 (.cells #[.int .i64 (n : Int), .slice o3 ss.length k3] 55)
    have XS := hide (BoxL.new w5 (.int .i64 (n : Int)) (.slice o3 ss.length k3) 55)
    have X8' := hide (X8.out.later hN1)
    have X9' := hide (X9.out.later hN1)
    have LX' := hide (LX.out.later hN1)
    have LY' := hide (LY.out.later hN1)
    have LS' := hide (LS.out.later hN1)
    clear X8 X9 LX LY LS
    have X8 := X8'
    have X9 := X9'
    have LX := LX'
    have LY := LY'
    have LS := LS'
    clear X8' X9' LX' LY' LS'
    have HBW' := hide (HBW.out.trans (hN1.mono HBW.out.size))
    clear HBW
    have HBW := HBW'
    clear HBW'
    clear hN1
    obtain ⟨c0, c1, c2, c3⟩ := X8.out.1
    obtain ⟨d0, d1, d2, d3⟩ := X9.out.1
    go_wp2_with fail
    clear c0 c1 c2 c3 d0 d1 d2 d3
    generalize w5.alloc (.cells #[.int .i64 (n : Int), .slice o3 ss.length k3] 55) = W5 at *
    generalize w5.heap.size = B8 at *
    refine (meetL_ok W5 _ _ n 6 hs ks (by exact LX.out.lat) (by exact LY.out.lat) h1 h4 hNM).mono ?_
    rintro e w6 ⟨v6, mm, rfl, hl6, hb6, hbo⟩
    have HBO := hide hbo
    have LM := hide (LatG.mk hl6)
    obtain ⟨pm, hFm⟩ := hl6.2
    have HFM := hide hFm
    obtain ⟨⟨u6, rfl, ⟨o4, k4, rfl, -, -⟩⟩, -⟩ := hl6
    clear hbo hFm
    have X8' := hide (X8.out.later hb6)
    have X9' := hide (X9.out.later hb6)
    have XS' := hide (XS.out.later hb6)
    have LX' := hide (LX.out.later hb6)
    have LY' := hide (LY.out.later hb6)
    have LS' := hide (LS.out.later hb6)
    clear X8 X9 XS LX LY LS
    have X8 := X8'
    have X9 := X9'
    have XS := XS'
    have LX := LX'
    have LY := LY'
    have LS := LS'
    clear X8' X9' XS' LX' LY' LS'
    have HBW' := hide (HBW.out.trans (hb6.mono HBW.out.size))
    clear HBW
    have HBW := HBW'
    clear HBW'
    clear hb6
    have hN1 := below_new w6 (.cells #[.int .i64 (n : Int), .slice o4 mm.length k4] 55)
    have XM := hide (BoxL.new w6 (.int .i64 (n : Int)) (.slice o4 mm.length k4) 55)
    have X8' := hide (X8.out.later hN1)
    have X9' := hide (X9.out.later hN1)
    have XS' := hide (XS.out.later hN1)
    have LX' := hide (LX.out.later hN1)
    have LY' := hide (LY.out.later hN1)
    have LS' := hide (LS.out.later hN1)
    have LM' := hide (LM.out.later hN1)
    clear X8 X9 XS LX LY LS LM
    have X8 := X8'
    have X9 := X9'
    have XS := XS'
    have LX := LX'
    have LY := LY'
    have LS := LS'
    have LM := LM'
    clear X8' X9' XS' LX' LY' LS' LM'
    have HBW' := hide (HBW.out.trans (hN1.mono HBW.out.size))
    clear HBW
    have HBW := HBW'
    clear HBW'
    clear hN1
    go_upto_if 46 with fail
    generalize w6.alloc (.cells #[.int .i64 (n : Int), .slice o4 mm.length k4] 55) = W6 at *
    generalize w6.heap.size = B10 at *
    go_cut [4] from 17 (fun v wc => v = .bool false ∧ wc = W6)
    case first =>
      go_wp2
      go_meet
      case rel => exact ⟨rfl, rfl⟩
    case rest =>
      obtain ⟨rfl, rfl⟩ := hcut
      apply_assumption
      exact topSecond_B w _ B6 (B6 + 1) B8 B10 n o1 o2 o3 o4 k1 k2 k3 k4 hs ks ss mm ph pk ps pm HBW.out h1 h4 X8.out LX.out.lat X9.out LY.out.lat XS.out LS.out.lat XM.out LM.out.lat HFX.out HFY.out HFS.out HFM.out HAS.out HBO.out _ _ _ _ _ _ _ _ _ _ _ _ _ _ _ _ _ _ _ _ _ _ _ _ _ _ _ _ _ _ _ _ _ _ _ _ _ _ _ _ _ _ _ _ _ _ _ _ _ _ _ _ _ _ _ _ _ _ _ _ _ _ _ _ _ _ _ _ _ _ _ _ _ _ _ _ _ _ _ _ _ _ _ _ _ _ _ _ _ _ _ _ _ _ _ _

end Go.Proofs.YtdedolkgcdlmeaaGreatDoor
