/- TopDet: the closed fact; the whole way. -/
import Derived.Test.YtmeefloajhffbaaDoorText
import Derived.Test.YtmeefloajhffbaaDoorTextB
namespace Go.Proofs.YtmeefloajhffbaaDoor
open Go.RowKit Limbs

set_option linter.unusedSimpArgs false in
set_option maxRecDepth 100000 in
set_option maxHeartbeats 6400000 in
theorem topDet_any (w : World) (ht : Tab w) (vm vk : Value) (iv jv : Int) {rss : List (List Raw)} {kn : Bool} {ko : Option Addr} {kc : Nat} {kz : List Int} (hC : MatC w vm rss) (hk : Came w vk kn ko kc kz) :
    Calls Tryd.prog 3 #[vm, .int .i64 iv, .int .i64 jv, vk] w fun e w' => e = .returned (.bool true) ∧ Below w.heap.size w w' := by
  obtain ⟨rfl, hkl, hkc⟩ := hk
  have HT := hide ht; have HC := hide hC; have HKC := hide hkc
  obtain ⟨mo, mcap, rfl, -, -, -⟩ := hC
  clear ht hkc
  obtain ⟨r, hr⟩ : ∃ r : Bool, r = true ↔ LightP rss (rss.length : Int) := by
    by_cases h : LightP rss (rss.length : Int)
    · exact ⟨true, fun _ => h, fun _ => rfl⟩
    · exact ⟨false, fun h' => (by cases h'), fun h' => absurd h' h⟩
  have HR := hide hr
  clear hr
  have HBX0 := hide (BoxL.new w (.bool kn) (.slice ko kz.length kc) 26)
  have HB0 := hide (below_new w (.cells #[.bool kn, .slice ko kz.length kc] 26))
  generalize hW0 : w.alloc (.cells #[.bool kn, .slice ko kz.length kc] 26) = W0 at *
  have HO1 := hide (ofV_any _ _ [2, 1] (row_twoD W0 2 1 (by decide) (by decide)) (by decide))
  have HB1 := hide (below_new W0 (.cells #[.int .i64 2, .int .i64 1] 3))
  go_enter Tryd.func3, Tryd.ntmps3
  go_wp2_with fail
  clear hW0
  refine HO1.out.mono ?_
  rintro e w1 ⟨P1, rfl, ho1⟩
  have hb1 := HB1.out.trans (ho1.below.mono (by simp))
  have HV1 := hide ho1.vec
  have HX1 := hide (HBX0.out.later hb1); have HBw1 := hide (HB0.out.trans (hb1.mono HB0.out.size))
  rw [show ([2, 1] : List Int).length = 2 from rfl]
  rw [show ([2, 1] : List Int).length = 2 from rfl] at HV1
  have HO2 := hide (ofV_any _ _ [1, 3] (row_twoD w1 1 3 (by decide) (by decide)) (by decide))
  have HB1a := hide (below_new w1 (.cells #[.int .i64 1, .int .i64 3] 3))
  clear ho1 hb1 HO1 HB1 HBX0 HB0
  go_wp2_with fail
  refine HO2.out.mono ?_
  rintro e w2 ⟨P2, rfl, ho2⟩
  have hb2 := HB1a.out.trans (ho2.below.mono (by simp))
  have HV2 := hide ho2.vec
  have HV1' := hide (HV1.out.below hb2 (Nat.le_refl _))
  have HX2 := hide (HX1.out.later hb2); have HBw2 := hide (HBw1.out.trans (hb2.mono HBw1.out.size))
  rw [show ([1, 3] : List Int).length = 2 from rfl]
  rw [show ([1, 3] : List Int).length = 2 from rfl] at HV2
  have HM2 := hide (two_rowsD w2 _ _ [2, 1] [1, 3] 2 HV1'.out HV2.out)
  have hN2 := below_new w2 (.cells #[.slice (some ⟨P1, 0, none⟩) 2 2, .slice (some ⟨P2, 0, none⟩) 2 2] 32)
  have HX3 := hide (HX2.out.later hN2); have HBw3 := hide (HBw2.out.trans (hN2.mono HBw2.out.size))
  clear ho2 hb2 hN2 HO2 HB1a HV1 HV2 HV1' HX1 HX2 HBw1 HBw2
  go_wp2_with fail
  generalize (w2.alloc (.cells #[.slice (some ⟨P1, 0, none⟩) 2 2, .slice (some ⟨P2, 0, none⟩) 2 2] 32)) = W3 at *
  refine (det_start W3 _ [[2, 1], [1, 3]] 2 2 HM2.out rfl (fun us h => by simp only [List.mem_cons, List.mem_nil_iff, or_false] at h; rcases h with rfl | rfl <;> rfl) (by decide) (by decide) (by decide)).mono ?_
  rintro e w4 ⟨v4, rfl, hv4, hb4⟩
  rw [show det 2 (ent [[2, 1], [1, 3]]) = 5 by decide] at hv4
  obtain ⟨⟨dn, dO, dL, dC⟩, rfl⟩ := hv4.nm
  have hN4 := below_new w4 (.cells #[.bool dn, .slice dO dL dC] 26)
  have hb5 := hb4.trans (hN4.mono hb4.size)
  have HX5 := hide (HX3.out.later hb5); have HB5 := hide (HBw3.out.trans (hb5.mono HBw3.out.size)); have ND5 := hide (hv4.below hN4 (Nat.le_refl _))
  obtain ⟨d0, d1, -, -⟩ := (BoxL.new w4 (.bool dn) (.slice dO dL dC) 26).1
  clear hv4 hb4 hN4 hb5 HX3 HBw3 HM2
  go_wp2_with fail
  generalize (w4.alloc (.cells #[.bool dn, .slice dO dL dC] 26)) = W5 at *
  refine (text_any W5 _ 5 _ (HT.out.below HB5.out) (by exact ND5.out) (by decide) (by decide)).mono ?_
  rintro e w6 ⟨rfl, hb6⟩
  rw [show txt 5 = [53] by decide +kernel]
  have HX6 := hide (HX5.out.later hb6); have HB6 := hide (HB5.out.trans (hb6.mono HB5.out.size))
  clear hb6 HX5 HB5 ND5 d0 d1
  go_upto_region 5 with fail
  go_cut [12] from 26 (fun v wc => v = .bool r ∧ Below w6.heap.size w6 wc)
  case first =>
    go_wp2_with fail
    refine (lightT_any w6 _ rss (rss.length : Int) (HC.out.below HB6.out) r HR.out).mono ?_
    rintro e w7 ⟨rfl, hb7⟩
    have HB7 := hide hb7
    clear hb7
    go_wp2
    go_meet
    case rel => exact ⟨rfl, HB7.out⟩
  case rest =>
  obtain ⟨rfl, hb7⟩ := hcut
  apply_assumption
  exact topDet_C w _ mo mcap iv jv rss kn ko kc kz r (HB6.out.trans (hb7.mono HB6.out.size)) HC.out HR.out hkl HKC.out (HX6.out.later hb7) _ _ _ _ _ _ _ _ _ _ _ _ _ _ _ _ _ _ _ _ _ _ _ _ _ _ _ _ _ _ _ _ _ _ _ _ _ _ _ _ _ _ _ _ _ _ _ _ _ _ _ _ _ _ _ _ _ _ _ _ _ _ _ _ _ _ _ _ _ _ _ _ _ _ _ _ _ _ _ _ _ _ _ _ _ _ _ _ _ _ _ _ _ _ _ _ _ _ _ _ _ _ _ _ _ _ _ _ _ _ _ _ _ _ _ _ _ _ _ _ _ _ _ _ _ _ _ _ _ _ _ _ _ _ _ _ _ _ _ _ _ _ _ _ _ _ _ _ _ _ _ _ _ _ _ _ _ _ _ _ _ _ _ _ _ _ _ _ _ _ _ _

end Go.Proofs.YtmeefloajhffbaaDoor
