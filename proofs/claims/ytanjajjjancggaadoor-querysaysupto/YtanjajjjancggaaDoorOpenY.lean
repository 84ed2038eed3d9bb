/- QuerySays. -/
import Derived.Test.YtanjajjjancggaaDoorRxP
import Derived.Test.YtanjajjjancggaaDoorBgL
import Derived.ProofKit
import Derived.Lib.SmallJoins
import Derived.ChangeOld
import Derived.Deep.SlicePairs
import Derived.Test.YtanjajjjancggaaDoorQxL

namespace Go.Proofs.YtanjajjjancggaaDoor
open Go.RowKit Limbs

theorem errV_pos {F : Nat} (h : F ≠ 0) : errV F = .iface 44 (.int .i64 (F : Int)) := by unfold errV; rw [if_neg h]

set_option linter.unusedSimpArgs false in
set_option linter.unusedVariables false in
set_option maxRecDepth 100000 in
set_option maxHeartbeats 6400000 in
theorem querySays_any (w : World) (x : Ex) (cs : List Value) (s : ByteArray) (hx : ExV w x cs) (he : ErrQ w) (hp : partsE x ≤ 1048576) :
  Calls Tryd.prog 3 #[.agg cs.toArray, .string s] w fun e w' => e = .returned (.bool true) ∧ Below w.heap.size w w' := by
 obtain ⟨k, n, z, o, m, cap, rfl, -⟩ := hx.agg
 obtain ⟨l, hl⟩ : ∃ l, s.data.toList = l := ⟨_, rfl⟩
 obtain rfl : s = ⟨l.toArray⟩ := by rw [← hl, Array.toArray_toList]
 have hb1 := alloc_below w (.cells #[.int .i64 k, .int .i64 n, .string z, .slice o m cap] 24)
 have HB := hide (ExB.new w k n z (.slice o m cap))
 have HXV := hide (hx.below hb1); have HE := hide (he.below hb1); have HW := hide hb1; have HP := hide hp
 obtain ⟨W1, hW1⟩ : ∃ W1, w.alloc (.cells #[.int .i64 k, .int .i64 n, .string z, .slice o m cap] 24) = W1 := ⟨_, rfl⟩
 rw [hW1] at HB HXV HE HW
 have HA := hide (asks_any W1 HE.out)
 clear hx he hb1 hl hp
 go_enter Tryd.func3, Tryd.ntmps3
 go_wp2_with fail
 refine HA.out.mono ?_
 rintro e w3 ⟨rfl, hb3⟩
 have HB3 := hide (HB.out.later hb3); have HXV3 := hide (HXV.out.below hb3); have HE3 := hide (HE.out.below hb3); have HW3 := hide (HW.out.trans (hb3.mono HW.out.size))
 clear hb3 HA HB HXV HE HW
 obtain ⟨b0, b1, b2, b3, -⟩ := HB3.out.cells
 have HLG := hide (lightExpr_any w3 x _ HXV3.out)
 go_wp2_with fail
 refine HLG.out.mono ?_
 rintro e w4 ⟨bl, rfl, hb4⟩
 have HB4 := hide (HB3.out.later hb4); have HXV4 := hide (HXV3.out.below hb4); have HE4 := hide (HE3.out.below hb4); have HW4 := hide (HW3.out.trans (hb4.mono HW3.out.size))
 clear hb4 HLG b0 b1 b2 b3 HB3 HXV3 HE3 HW3
 cases bl with
 | false =>
  go_wp2
  go_ret
  exact ⟨rfl, HW4.out⟩
 | true =>
  by_cases h5 : 500 < l.length
  ·have g5 : decide (500 < (l.length : Int)) = true := decide_eq_true (by omega)
   go_wp2
   go_ret
   exact ⟨rfl, HW4.out⟩
  have g5 : decide (500 < (l.length : Int)) = false := decide_eq_false (by omega)
  have HL := hide (show l.length ≤ 1000000 by omega)
  obtain ⟨b0, b1, b2, b3, -⟩ := HB4.out.cells
  have HEF := hide (exprFault_any w4 x _ HXV4.out HP.out)
  clear h5
  go_wp2_with fail
  refine HEF.out.mono ?_
  rintro e w5 ⟨rfl, hb5⟩
  have HB5 := hide (HB4.out.later hb5); have HXV5 := hide (HXV4.out.below hb5); have HE5 := hide (HE4.out.below hb5); have HW5 := hide (HW4.out.trans (hb5.mono HW4.out.size))
  clear hb5 HEF b0 b1 b2 b3 HB4 HXV4 HE4 HW4 g5
  obtain ⟨b0, b1, b2, b3, -⟩ := HB5.out.cells
  have HTX := hide (text_any w5 x _ HXV5.out)
  go_wp2_with fail
  refine HTX.out.mono ?_
  rintro e w6 ⟨hb6, hres⟩
  have HB6 := hide (HB5.out.later hb6); have HXV6 := hide (HXV5.out.below hb6); have HE6 := hide (HE5.out.below hb6); have HW6 := hide (HW5.out.trans (hb6.mono HW5.out.size))
  have HCK := hide (check_any w6 x _ HXV6.out)
  clear hb6 HTX b0 b1 b2 b3 HB5 HXV5 HE5 HW5
  obtain ⟨b0, b1, b2, b3, -⟩ := HB6.out.cells
  rcases hres with ⟨hne, rfl⟩ | ⟨q, hq, hqe, hq6, hq0, rfl⟩
  ·generalize faultE x = F at *
   rw [errV_pos hne] at HCK
   have hF : (0 : Int) < (F : Int) := by omega
   have HS := hide (fun W => same_of (F : Int) hF W)
   have gF : decide ((0 : Int) < (F : Int)) = true := decide_eq_true hF
   have gF0 : ((F : Int) == 0) = false := beq_eq_false_iff_ne.2 (by omega)
   go_wp2_with fail
   refine HCK.out.mono ?_
   rintro e w7 ⟨rfl, hb7⟩
   go_wp2_with fail
   refine (HS.out _).mono ?_
   rintro e w8 ⟨rfl, hw8⟩
   subst hw8
   go_wp2_with fail
   refine (HS.out _).mono ?_
   rintro e w9 ⟨rfl, hw9⟩
   subst hw9
   have HE7 := hide (HE6.out.below hb7); have HW7 := hide (HW6.out.trans (hb7.mono HW6.out.size))
   clear hb7 HCK HB6 HE6 HW6 HXV6 b0 b1 b2 b3
   go_wp2_with fail
   refine (parse_any w9 l HL.out HE7.out).mono ?_
   rintro e v1 ⟨hv1, hres⟩
   rcases hres with ⟨rfl, hno⟩ | ⟨q1, d1, hq1, hq16, hq10, hqt1, rfl, hx1⟩
   ·have hv2 := alloc_below v1 (.cells #[.int .i64 0, .int .i64 0, .string ⟨#[]⟩, .slice none 0 0] 24)
    have HY2 := hide (ExB.new v1 0 0 ⟨#[]⟩ (.slice none 0 0))
    have HW2 := hide (HW7.out.trans ((hv1.trans (hv2.mono hv1.size)).mono HW7.out.size))
    have HNO := hide hno
    clear hv1 hv2 hno
    go_wp2_with fail
    refine (readWhole_any (v1.alloc (.cells #[.int .i64 0, .int .i64 0, .string ⟨#[]⟩, .slice none 0 0] 24)) l HL.out).mono ?_
    rintro e v3 ⟨hv3, hres2⟩
    rcases hres2 with ⟨rfl, -⟩ | ⟨q2, d2, hq2, hq26, hq20, hqt2, rfl, hx2⟩
    ·have hv4 := alloc_below v3 (.cells #[.int .i64 0, .int .i64 0, .string ⟨#[]⟩, .slice none 0 0] 24)
     have HY4 := hide (ExB.new v3 0 0 ⟨#[]⟩ (.slice none 0 0))
     have hv34 := hv3.trans (hv4.mono hv3.size)
     have HY24 := hide (HY2.out.later hv34); have HW4 := hide (HW2.out.trans (hv34.mono HW2.out.size))
     have HSM := hide (same_of 5 (by decide) (v3.alloc (.cells #[.int .i64 0, .int .i64 0, .string ⟨#[]⟩, .slice none 0 0] 24)))
     have HSE := hide (sameExpr_any 1 (v3.alloc (.cells #[.int .i64 0, .int .i64 0, .string ⟨#[]⟩, .slice none 0 0] 24)) (.mk 0 0 ⟨#[]⟩ []) _ _ (ExF.leaf _ 0 0 0 ⟨#[]⟩).ex (ExF.leaf _ 0 0 0 ⟨#[]⟩).ex)
     clear hv3 hv4 hv34 HY2 HW2
     obtain ⟨p0, p1, p2, p3, -⟩ := HY24.out.cells
     obtain ⟨r0, r1, r2, r3, -⟩ := HY4.out.cells
     go_wp2_with fail
     refine HSM.out.mono ?_
     rintro e v5 ⟨rfl, hv5⟩
     subst hv5
     go_wp2_with fail
     refine HSE.out.mono ?_
     rintro e v6 ⟨rfl, hv6⟩
     have HW6 := hide (HW4.out.trans (hv6.mono HW4.out.size))
     clear hv6 HSE HSM HW4
     go_wp2
     go_ret
     exact ⟨rfl, HW6.out⟩
    ·exact absurd hqt2 (HNO.out q2 hq2 hq26 hq20)
   ·obtain ⟨ka, na, sa, oa, ma, capa, rfl, -⟩ := hx1.agg
    have hv2 := alloc_below v1 (.cells #[.int .i64 ka, .int .i64 na, .string sa, .slice oa ma capa] 24)
    have HY2 := hide (ExB.new v1 ka na sa (.slice oa ma capa))
    obtain ⟨V2, hV2⟩ : ∃ V2, v1.alloc (.cells #[.int .i64 ka, .int .i64 na, .string sa, .slice oa ma capa] 24) = V2 := ⟨_, rfl⟩
    rw [hV2] at hv2 HY2
    have HW2 := hide (HW7.out.trans ((hv1.trans (hv2.mono hv1.size)).mono HW7.out.size))
    have HX2 := hide (hx1.below hv2)
    have HQ1 := hide hq1; have HQT1 := hide hqt1; have HQ10 := hide hq10
    clear hv1 hv2 hx1 hqt1 hq1 hq10
    go_wp2_with fail
    refine (readWhole_any V2 l HL.out).mono ?_
    rintro e v3 ⟨hv3, hres2⟩
    rcases hres2 with ⟨rfl, hno⟩ | ⟨q2, d2, hq2, hq26, hq20, hqt2, rfl, hx2⟩
    ·exact absurd HQT1.out (hno q1 HQ1.out hq16 HQ10.out)
    ·obtain rfl := text_inj HQ1.out hq2 hq16 hq26 (HQT1.out.trans hqt2.symm)
     obtain ⟨kb, nb, sb, ob, mb, capb, rfl, -⟩ := hx2.agg
     have hv4 := alloc_below v3 (.cells #[.int .i64 kb, .int .i64 nb, .string sb, .slice ob mb capb] 24)
     have HY4 := hide (ExB.new v3 kb nb sb (.slice ob mb capb))
     obtain ⟨V4, hV4⟩ : ∃ V4, v3.alloc (.cells #[.int .i64 kb, .int .i64 nb, .string sb, .slice ob mb capb] 24) = V4 := ⟨_, rfl⟩
     rw [hV4] at hv4 HY4
     have hv34 := hv3.trans (hv4.mono hv3.size)
     have HY24 := hide (HY2.out.later hv34); have HW4 := hide (HW2.out.trans (hv34.mono HW2.out.size))
     obtain ⟨e1, h1⟩ := HX2.out.below hv34
     obtain ⟨e2, h2⟩ := hx2.below hv4
     have HSM := hide (same_zero V4)
     have HSE := hide (sameExpr_any (max e1 e2) V4 q1.ex _ _ (h1.mono (Nat.le_max_left _ _)) (h2.mono (Nat.le_max_right _ _)))
     clear h1 h2 hx2 HX2
     clear hv3 hv4 hv34 HY2 HW2
     obtain ⟨p0, p1, p2, p3, -⟩ := HY24.out.cells
     obtain ⟨r0, r1, r2, r3, -⟩ := HY4.out.cells
     go_wp2_with fail
     refine HSM.out.mono ?_
     rintro e v5 ⟨rfl, hv5⟩
     subst hv5
     go_wp2_with fail
     refine HSE.out.mono ?_
     rintro e v6 ⟨rfl, hv6⟩
     have HW6 := hide (HW4.out.trans (hv6.mono HW4.out.size))
     clear hv6 HSE HSM HW4
     go_wp2
     go_ret
     exact ⟨rfl, HW6.out⟩
  ·rw [hq0] at HCK ⊢
   rw [show errV 0 = .nilIface from rfl] at HCK
   obtain ⟨dx, hdx⟩ := HXV6.out
   rw [← hqe] at hdx
   have HS := hide (fun W => same_zero W)
   have HDX := hide hdx
   clear hdx
   go_wp2_with fail
   refine HCK.out.mono ?_
   rintro e w7 ⟨rfl, hb7⟩
   have HB7 := hide (HB6.out.later hb7); have HE7 := hide (HE6.out.below hb7); have HW7 := hide (HW6.out.trans (hb7.mono HW6.out.size))
   have HWR := hide (wroteR_any q dx w7 _ hq (by omega) (HDX.out.below hb7))
   clear hb7 HCK HB6 HE6 HW6 HXV6 HDX b0 b1 b2 b3
   obtain ⟨b0, b1, b2, b3, -⟩ := HB7.out.cells
   go_wp2_with fail
   refine (HS.out _).mono ?_
   rintro e w8 ⟨rfl, hw8⟩
   subst hw8
   go_wp2_with fail
   refine (HS.out _).mono ?_
   rintro e w9 ⟨rfl, hw9⟩
   subst hw9
   go_wp2_with fail
   refine HWR.out.mono ?_
   rintro e u1 ⟨rfl, hu1⟩
   have HE8 := hide (HE7.out.below hu1); have HW8 := hide (HW7.out.trans (hu1.mono HW7.out.size))
   clear hu1 HWR HE7 HW7 HB7 b0 b1 b2 b3
   have gq : (q.text == q.text) = true := beq_self_eq_true _
   clear hq hqe hq6 hq0
   generalize q.text = qt at *
   go_wp2_with fail
   refine (parse_any u1 l HL.out HE8.out).mono ?_
   rintro e v1 ⟨hv1, hres⟩
   rcases hres with ⟨rfl, hno⟩ | ⟨q1, d1, hq1, hq16, hq10, hqt1, rfl, hx1⟩
   ·have hv2 := alloc_below v1 (.cells #[.int .i64 0, .int .i64 0, .string ⟨#[]⟩, .slice none 0 0] 24)
    have HY2 := hide (ExB.new v1 0 0 ⟨#[]⟩ (.slice none 0 0))
    have HW2 := hide (HW8.out.trans ((hv1.trans (hv2.mono hv1.size)).mono HW8.out.size))
    have HNO := hide hno
    clear hv1 hv2 hno
    go_wp2_with fail
    refine (readWhole_any (v1.alloc (.cells #[.int .i64 0, .int .i64 0, .string ⟨#[]⟩, .slice none 0 0] 24)) l HL.out).mono ?_
    rintro e v3 ⟨hv3, hres2⟩
    rcases hres2 with ⟨rfl, -⟩ | ⟨q2, d2, hq2, hq26, hq20, hqt2, rfl, hx2⟩
    ·have hv4 := alloc_below v3 (.cells #[.int .i64 0, .int .i64 0, .string ⟨#[]⟩, .slice none 0 0] 24)
     have HY4 := hide (ExB.new v3 0 0 ⟨#[]⟩ (.slice none 0 0))
     have hv34 := hv3.trans (hv4.mono hv3.size)
     have HY24 := hide (HY2.out.later hv34); have HW4 := hide (HW2.out.trans (hv34.mono HW2.out.size))
     have HSM := hide (same_of 5 (by decide) (v3.alloc (.cells #[.int .i64 0, .int .i64 0, .string ⟨#[]⟩, .slice none 0 0] 24)))
     have HSE := hide (sameExpr_any 1 (v3.alloc (.cells #[.int .i64 0, .int .i64 0, .string ⟨#[]⟩, .slice none 0 0] 24)) (.mk 0 0 ⟨#[]⟩ []) _ _ (ExF.leaf _ 0 0 0 ⟨#[]⟩).ex (ExF.leaf _ 0 0 0 ⟨#[]⟩).ex)
     clear hv3 hv4 hv34 HY2 HW2
     obtain ⟨p0, p1, p2, p3, -⟩ := HY24.out.cells
     obtain ⟨r0, r1, r2, r3, -⟩ := HY4.out.cells
     go_wp2_with fail
     refine HSM.out.mono ?_
     rintro e v5 ⟨rfl, hv5⟩
     subst hv5
     go_wp2_with fail
     refine HSE.out.mono ?_
     rintro e v6 ⟨rfl, hv6⟩
     have HW6 := hide (HW4.out.trans (hv6.mono HW4.out.size))
     clear hv6 HSE HSM HW4
     go_wp2
     go_ret
     exact ⟨rfl, HW6.out⟩
    ·exact absurd hqt2 (HNO.out q2 hq2 hq26 hq20)
   ·obtain ⟨ka, na, sa, oa, ma, capa, rfl, -⟩ := hx1.agg
    have hv2 := alloc_below v1 (.cells #[.int .i64 ka, .int .i64 na, .string sa, .slice oa ma capa] 24)
    have HY2 := hide (ExB.new v1 ka na sa (.slice oa ma capa))
    obtain ⟨V2, hV2⟩ : ∃ V2, v1.alloc (.cells #[.int .i64 ka, .int .i64 na, .string sa, .slice oa ma capa] 24) = V2 := ⟨_, rfl⟩
    rw [hV2] at hv2 HY2
    have HW2 := hide (HW8.out.trans ((hv1.trans (hv2.mono hv1.size)).mono HW8.out.size))
    have HX2 := hide (hx1.below hv2)
    have HQ1 := hide hq1; have HQT1 := hide hqt1; have HQ10 := hide hq10
    clear hv1 hv2 hx1 hqt1 hq1 hq10
    go_wp2_with fail
    refine (readWhole_any V2 l HL.out).mono ?_
    rintro e v3 ⟨hv3, hres2⟩
    rcases hres2 with ⟨rfl, hno⟩ | ⟨q2, d2, hq2, hq26, hq20, hqt2, rfl, hx2⟩
    ·exact absurd HQT1.out (hno q1 HQ1.out hq16 HQ10.out)
    ·obtain rfl := text_inj HQ1.out hq2 hq16 hq26 (HQT1.out.trans hqt2.symm)
     obtain ⟨kb, nb, sb, ob, mb, capb, rfl, -⟩ := hx2.agg
     have hv4 := alloc_below v3 (.cells #[.int .i64 kb, .int .i64 nb, .string sb, .slice ob mb capb] 24)
     have HY4 := hide (ExB.new v3 kb nb sb (.slice ob mb capb))
     obtain ⟨V4, hV4⟩ : ∃ V4, v3.alloc (.cells #[.int .i64 kb, .int .i64 nb, .string sb, .slice ob mb capb] 24) = V4 := ⟨_, rfl⟩
     rw [hV4] at hv4 HY4
     have hv34 := hv3.trans (hv4.mono hv3.size)
     have HY24 := hide (HY2.out.later hv34); have HW4 := hide (HW2.out.trans (hv34.mono HW2.out.size))
     obtain ⟨e1, h1⟩ := HX2.out.below hv34
     obtain ⟨e2, h2⟩ := hx2.below hv4
     have HSM := hide (same_zero V4)
     have HSE := hide (sameExpr_any (max e1 e2) V4 q1.ex _ _ (h1.mono (Nat.le_max_left _ _)) (h2.mono (Nat.le_max_right _ _)))
     clear h1 h2 hx2 HX2
     clear hv3 hv4 hv34 HY2 HW2
     obtain ⟨p0, p1, p2, p3, -⟩ := HY24.out.cells
     obtain ⟨r0, r1, r2, r3, -⟩ := HY4.out.cells
     go_wp2_with fail
     refine HSM.out.mono ?_
     rintro e v5 ⟨rfl, hv5⟩
     subst hv5
     go_wp2_with fail
     refine HSE.out.mono ?_
     rintro e v6 ⟨rfl, hv6⟩
     have HW6 := hide (HW4.out.trans (hv6.mono HW4.out.size))
     clear hv6 HSE HSM HW4
     go_wp2
     go_ret
     exact ⟨rfl, HW6.out⟩

end Go.Proofs.YtanjajjjancggaaDoor

/- Expressions that came in: as they read. -/
namespace Go.Proofs.YtanjajjjancggaaDoor
open Go.ChangeShapes Go.WideShapes Go.ChangeAt Go.RowKit Go.Joins

theorem Tryd.cellsExX : Tryd.prog.cellsOf 24 = 4 := by kernel_rfl
theorem Tryd.cellsStrX : Tryd.prog.cellsOf 9 = 1 := by kernel_rfl
theorem Tryd.cellsIntX : Tryd.prog.cellsOf 3 = 1 := by kernel_rfl
theorem Tryd.cellsExSX : Tryd.prog.cellsOf 22 = 1 := by kernel_rfl

instance : Inhabited Ex := ⟨.mk 0 0 ⟨#[]⟩ []⟩

section
variable {H : Type} {enc : TypeId × Value → H} {W : World}

theorem spot_noneX {a : Addr} {v : Value} (h : W.cell? (a.add 0) = some v) : ∃ b off, a = ⟨b, off, none⟩ ∧ b < W.heap.size := by
 obtain ⟨b, off, spot⟩ := a
 have hs : spot = none := by simpa [Addr.add] using World.cell?_spot h
 subst hs
 exact ⟨b, off, rfl, by simpa [Addr.add] using World.block_lt_of_cell? W _ h⟩

theorem ExD.len4 {d : Nat} {x : Ex} {cs : List Value} (h : ExD W d x cs) : cs.length = 4 := by
 cases d with
 | zero => exact h.elim
 | succ d =>
  obtain ⟨k, n, s, a⟩ := x
  rw [ExD] at h
  obtain ⟨o, cap, rfl, -⟩ := h
  rfl

end

end Go.Proofs.YtanjajjjancggaaDoor

/- Expressions that came in, and how many parts they have. -/
namespace Go.Proofs.YtanjajjjancggaaDoor
open Go.ChangeShapes Go.WideShapes Go.ChangeAt Go.RowKit Go.Joins

section
variable {H : Type} {enc : TypeId × Value → H} {W : World}

theorem partsL_le : ∀ (a : List Ex) (ds : List (DataW H)), a.length = ds.length → (∀ (i : Nat) x d, a[i]? = some x → ds[i]? = some d → partsE x ≤ Rows.uptoBulk d) → partsL a ≤ Rows.uptoBulkAll ds
 | [], ds, _, _ => by rw [partsL]; exact Nat.zero_le _
 | x :: a, [], h, _ => by cases h
 | x :: a, d :: ds, h, hp => by
  have h1 := hp 0 x d rfl rfl
  have h2 := partsL_le a ds (by simpa using h) (fun i y e hy he => hp (i + 1) y e hy he)
  rw [partsL, Rows.uptoBulkAll]
  omega

set_option maxRecDepth 100000 in
theorem open_exB : ∀ (n : Nat) {cs : List Value} {y : DataW H × List MemPlace}, DataW.trod enc Tryd.prog W 0 (fun _ => true) true n 24 cs = some y → ∃ x, ExD W n x cs ∧ partsE x ≤ Rows.uptoBulk y.1 := by
 intro n
 induction n using Nat.strongRecOn with
 | _ n ih =>
 intro cs y h
 obtain ⟨xs, k, rfl, hy, hl, hxl, hf⟩ := DataW.trod_struct Tryd.underlying24 h
 rw [Tryd.cellsExX] at hl
 match cs, hl with
 | [v0, v1, v2, v3], _ =>
  match xs, hxl with
  | [x0, x1, x2, x3], _ =>
   have g0 : DataW.trod enc Tryd.prog W 0 (fun _ => true) true k 3 (([v0, v1, v2, v3].drop 0).take (Tryd.prog.cellsOf 3)) = [x0, x1, x2, x3][0]? := hf 0 _ rfl
   have g1 : DataW.trod enc Tryd.prog W 0 (fun _ => true) true k 3 (([v0, v1, v2, v3].drop 1).take (Tryd.prog.cellsOf 3)) = [x0, x1, x2, x3][1]? := hf 1 _ rfl
   have g2 : DataW.trod enc Tryd.prog W 0 (fun _ => true) true k 9 (([v0, v1, v2, v3].drop 2).take (Tryd.prog.cellsOf 9)) = [x0, x1, x2, x3][2]? := hf 2 _ rfl
   have g3 : DataW.trod enc Tryd.prog W 0 (fun _ => true) true k 22 (([v0, v1, v2, v3].drop 3).take (Tryd.prog.cellsOf 22)) = [x0, x1, x2, x3][3]? := hf 3 _ rfl
   rw [Tryd.cellsIntX] at g0 g1
   rw [Tryd.cellsStrX] at g2
   rw [Tryd.cellsExSX] at g3
   obtain ⟨kd, e0, -, -⟩ := DataW.trod_int Tryd.underlying3 g0
   obtain ⟨nn, e1, -, -⟩ := DataW.trod_int Tryd.underlying3 g1
   obtain ⟨name, e2, -, -⟩ := DataW.trod_string Tryd.underlying9 g2
   have e0' : v0 = .int .i64 kd := by simpa using e0
   have e1' : v1 = .int .i64 nn := by simpa using e1
   have e2' : v2 = .string name := by simpa using e2
   subst e0' e1' e2'
   rcases DataW.trod_slice Tryd.underlying22 (show DataW.trod enc Tryd.prog W 0 (fun _ => true) true k 22 [v3] = some x3 from g3) with ⟨e, hx3⟩ | ⟨a, l, c, elems, rest, m, rfl, e, hx3, -, hlc, hcm, hel, hc, -⟩
   ·have e' : v3 = .slice none 0 0 := by simpa using e
    subst e'
    refine ⟨.mk kd nn name [], ?_, ?_⟩
    ·rw [ExD]
     exact ⟨none, 0, rfl, Nat.le_refl _, by decide, fun h => absurd h (by decide)⟩
    ·rw [hy, partsE, partsL]
     simp [Rows.uptoBulk]
   ·have e' : v3 = .slice (some a) l c := by simpa using e
    subst e'
    have hc' : ∀ i, i < l → ∃ cs', W.cells? 0 (a.add (i * 4)) 4 = some cs' ∧ ∃ y, elems[i]? = some y ∧ DataW.trod enc Tryd.prog W 0 (fun _ => true) true m 24 cs' = some y := fun i hi => by
     have h1 := hc i hi
     rw [Tryd.cellsExX, List.getElem?_eq_getElem (by omega)] at h1
     obtain ⟨cs', h2, h3⟩ := Option.bind_eq_some_iff.1 h1
     exact ⟨cs', h2, _, List.getElem?_eq_getElem (by omega), h3⟩
    have each : ∀ i, i < l → ∃ q : Ex, (∃ ys, ExD W m q ys ∧ ∀ (j : Nat) (u : Value), ys[j]? = some u → W.cell? (a.add (i * 4 + j)) = some u) ∧ ∀ d, elems[i]? = some d → partsE q ≤ Rows.uptoBulk d.1 := fun i hi => by
     obtain ⟨ys, h1, y, hy1, h2⟩ := hc' i hi
     obtain ⟨-, hlen, hcell⟩ := World.cells?_some h1
     obtain ⟨q, hq, hqb⟩ := ih m (by omega) h2
     refine ⟨q, ⟨ys, hq, fun j u hu => ?_⟩, fun d hd => by rw [hy1] at hd; obtain rfl := Option.some.inj hd; exact hqb⟩
     have hj := (List.getElem?_eq_some_iff.1 hu).1
     have := hcell j (by omega)
     rw [Go.Deep.add_add, hu] at this
     exact this
    obtain ⟨q, hq⟩ := Go.Deep.choose_lt each
    have hlen : ((List.range l).map q).length = l := by simp
    refine ⟨.mk kd nn name ((List.range l).map q), ?_, ?_⟩
    rotate_left
    ·have hle : partsL ((List.range l).map q) ≤ Rows.uptoBulkAll (elems.map (·.1)) := partsL_le _ _ (by rw [hlen, List.length_map, hel]) (fun i x d hx hd => by
      obtain ⟨hi, e⟩ := List.getElem?_eq_some_iff.1 hx
      rw [hlen] at hi
      have ep : x = q i := by simpa using e.symm
      subst ep
      rw [List.getElem?_map] at hd
      cases hd1 : elems[i]? with
      | none => rw [hd1] at hd; cases hd
      | some d1 =>
       rw [hd1] at hd
       obtain rfl := Option.some.inj hd
       exact (hq i hi).2 d1 hd1)
     rw [hy, partsE]
     simp only [List.map_cons, List.map_nil, Rows.uptoBulk, Rows.uptoBulkAll, hx3]
     omega
    rw [ExD]
    have hmax : c ≤ 9223372036854775807 := Nat.le_trans hcm (by decide)
    refine ⟨some a, c, by rw [hlen], by rw [hlen]; exact hlc, by rw [hlen]; omega, fun h0 => ?_⟩
    rw [hlen] at h0
    obtain ⟨⟨ys0, hd0, hc0⟩, -⟩ := hq 0 h0
    have c0 := hc0 0 (ys0[0]'(by have := hd0.len4; omega)) (List.getElem?_eq_getElem _)
    obtain ⟨b, off, rfl, hlt⟩ := spot_noneX (by simpa using c0)
    refine ⟨b, off, rfl, hlt, fun i x hx => ?_⟩
    obtain ⟨hi, e⟩ := List.getElem?_eq_some_iff.1 hx
    rw [hlen] at hi
    have ep : x = q i := by simpa using e.symm
    subst ep
    obtain ⟨⟨ys, hd, hcc⟩, -⟩ := hq i hi
    refine ⟨ys, hd.up, fun j u hu => ?_⟩
    have := hcc j u hu
    rw [Go.WideShapes.add_plain] at this
    rw [Nat.add_assoc]
    exact this

set_option maxRecDepth 100000 in
theorem open_exVB {r : Reach} {b0 : Nat} {v : Value} {d : DataW H} {p : List MemPlace} (hv : Value.okWide Tryd.prog W r b0 24 v) (h : DataW.Trod enc Tryd.prog W 0 (fun _ => true) true 24 v d p) : ∃ x cs, v = .agg cs.toArray ∧ ExV W x cs ∧ partsE x ≤ Rows.uptoBulk d := by
 obtain ⟨cs, rfl, -⟩ := okWide_struct Tryd.underlying24 hv
 obtain ⟨fuel, hf⟩ := h
 obtain ⟨x, hx, hb⟩ := open_exB fuel (cs := cs.toList) hf
 exact ⟨x, cs.toList, rfl, ⟨fuel, hx⟩, hb⟩

end

end Go.Proofs.YtanjajjjancggaaDoor
