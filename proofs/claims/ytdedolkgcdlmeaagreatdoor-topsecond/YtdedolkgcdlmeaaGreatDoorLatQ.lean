/- Two lattices: their check, their sum. -/
import Derived.Test.YtdedolkgcdlmeaaGreatDoorLatG
import Derived.Test.YtdedolkgcdlmeaaGreatDoorLatH
namespace Go.Proofs.YtdedolkgcdlmeaaGreatDoor
open Go.RowKit Limbs

set_option maxRecDepth 100000 in
set_option maxHeartbeats 1600000 in
theorem checkBoth_ok (w : World) (va vb : Value) (n nv mv : Nat) (hs ks : List (List Int)) (ha : LatN w va n hs nv) (hb : LatN w vb n ks mv) (h1 : 1 ≤ n) (h4 : n ≤ 4) :
    Calls Tryz.prog 80 #[va, vb] w fun e w' => e = .returned .nilIface ∧ Below w.heap.size w w' := by
  have HA := hide ha; have HB := hide hb
  obtain ⟨⟨u, rfl, ⟨uo, ucap, rfl, -, -⟩⟩, -⟩ := ha
  obtain ⟨⟨v, rfl, ⟨vo, vcap, rfl, -, -⟩⟩, -⟩ := hb
  have HX := hide (two_boxes w (.int .i64 (n : Int)) (.slice uo hs.length ucap) (.int .i64 (n : Int)) (.slice vo ks.length vcap) 55 55)
  obtain ⟨⟨c0, c1, z0, z1⟩, ⟨d0, d1, y0, y1⟩, -, -⟩ := HX.out
  go_enter Tryz.func80, Tryz.ntmps80
  go_wp2_with fail
  clear c0 c1 z0 z1 d0 d1 y0 y1
  generalize ((w.alloc (.cells #[.int .i64 (n : Int), .slice uo hs.length ucap] 55)).alloc (.cells #[.int .i64 (n : Int), .slice vo ks.length vcap] 55)) = W0 at *
  refine (checkL_ok W0 _ n nv hs (by exact HA.out.below HX.out.2.2.1) h1 h4).mono ?_
  rintro e w1 ⟨rfl, hb1⟩
  have HB1 := hide (HX.out.2.2.1.trans (hb1.mono HX.out.2.2.1.size))
  have HC1 := hide (HX.out.1.later hb1 (by have := HX.out.2.2.2; omega))
  have HD1 := hide (HX.out.2.1.later hb1 HX.out.2.2.2)
  have HL1 := hide (Nat.lt_of_lt_of_le HX.out.2.2.2 hb1.size)
  obtain ⟨d0, d1, y0, y1⟩ := HD1.out
  clear hb1 HX
  go_wp2_with fail
  refine (checkL_ok w1 _ n mv ks (by exact HB.out.below HB1.out) h1 h4).mono ?_
  rintro e w2 ⟨rfl, hb2⟩
  have HB2 := hide (HB1.out.trans (hb2.mono HB1.out.size))
  clear d0 d1 y0 y1
  obtain ⟨c0, c1, z0, z1⟩ := HC1.out.later hb2 (by have := HL1.out; omega)
  obtain ⟨d0, d1, y0, y1⟩ := HD1.out.later hb2 HL1.out
  clear hb2 HB1 HC1 HD1
  go_wp2
  go_ret
  exact ⟨rfl, HB2.out⟩

set_option maxRecDepth 100000 in
set_option maxHeartbeats 1600000 in
theorem sumL_ok (w : World) (va vb : Value) (n nv : Nat) (hs ks : List (List Int)) (ha : LatN w va n hs nv) (hb : LatN w vb n ks nv) (h1 : 1 ≤ n) (h4 : n ≤ 4) (hN : nbK n (n * nv + 2) nv n ≤ 100000) :
    Calls Tryz.prog 30 #[va, vb] w fun e w' => InsPost w n nv (hs ++ ks) e w' := by
  have HA := hide ha; have HB := hide hb; have HN := hide hN
  obtain ⟨⟨u, rfl, hu⟩, p, hF⟩ := ha
  obtain ⟨⟨v, rfl, hv⟩, p', hF'⟩ := hb
  have HU := hide hu; have HV := hide hv
  have hl1 := hF.short
  have hl2 := hF'.short
  have HR : Hid (∀ us ∈ hs ++ ks, us.length = n) := fun us hus => by
    rcases List.mem_append.1 hus with hh | hh
    · exact hF.len us hh
    · exact hF'.len us hh
  obtain ⟨uo, ucap, rfl, -, -⟩ := hu
  obtain ⟨vo, vcap, rfl, -, -⟩ := hv
  clear hF hF' hN
  have HX := hide (two_boxes w (.int .i64 (n : Int)) (.slice uo hs.length ucap) (.int .i64 (n : Int)) (.slice vo ks.length vcap) 55 55)
  have HY := hide (box_new ((w.alloc (.cells #[.int .i64 (n : Int), .slice uo hs.length ucap] 55)).alloc (.cells #[.int .i64 (n : Int), .slice vo ks.length vcap] 55)) (.int .i64 0) (.slice none 0 0) 55 (w.heap.size + 1 + 1) (by simp))
  have HZ := hide ((Below.refl (w.heap.size + 2) ((w.alloc (.cells #[.int .i64 (n : Int), .slice uo hs.length ucap] 55)).alloc (.cells #[.int .i64 (n : Int), .slice vo ks.length vcap] 55))).alloc (by simp) (.cells #[.int .i64 0, .slice none 0 0] 55))
  have HC := hide (HX.out.1.later HZ.out (by omega))
  have HD := hide (HX.out.2.1.later HZ.out (by omega))
  have HB0 := hide (HX.out.2.2.1.trans (HZ.out.mono (by omega)))
  have HSZ : Hid (w.heap.size + 1 + 1 < (((w.alloc (.cells #[.int .i64 (n : Int), .slice uo hs.length ucap] 55)).alloc (.cells #[.int .i64 (n : Int), .slice vo ks.length vcap] 55)).alloc (.cells #[.int .i64 0, .slice none 0 0] 55)).heap.size) := by show _ < _; simp
  obtain ⟨c0, c1, z0, z1⟩ := HC.out
  obtain ⟨d0, d1, y0, y1⟩ := HD.out
  go_enter Tryz.func30, Tryz.ntmps30
  go_wp2_with fail
  clear c0 c1 z0 z1 d0 d1 y0 y1 HX HZ
  generalize (((w.alloc (.cells #[.int .i64 (n : Int), .slice uo hs.length ucap] 55)).alloc (.cells #[.int .i64 (n : Int), .slice vo ks.length vcap] 55)).alloc (.cells #[.int .i64 0, .slice none 0 0] 55)) = W0 at *
  refine (checkBoth_ok W0 _ _ n nv nv hs ks (by exact HA.out.below HB0.out) (by exact HB.out.below HB0.out) h1 h4).mono ?_
  rintro e w1 ⟨rfl, hb1⟩
  have HB1 := hide (HB0.out.trans (hb1.mono HB0.out.size))
  obtain ⟨c0, c1, z0, z1⟩ := HC.out.later hb1 (by have := HSZ.out; omega)
  obtain ⟨d0, d1, y0, y1⟩ := HD.out.later hb1 (by have := HSZ.out; omega)
  have HE := hide (HY.out.later hb1 HSZ.out)
  have HS1 := hide (Nat.lt_of_lt_of_le HSZ.out hb1.size)
  clear hb1 HC HD HY HSZ HB0
  have HBA := hide ((Below.refl w1.heap.size w1).alloc (Nat.le_refl _) (.cells #[.slice uo hs.length ucap, .slice vo ks.length vcap] 23))
  have HT : Hid (TwoM (w1.alloc (.cells #[.slice uo hs.length ucap, .slice vo ks.length vcap] 23)) w1.heap.size (.slice uo hs.length ucap) (.slice vo ks.length vcap) hs ks nv) :=
    ⟨by simp, by rw [World.cell?_alloc_new]; rfl, by rw [World.cell?_alloc_new]; rfl, (HU.out.below HB1.out (Nat.le_refl _)).below HBA.out (Nat.le_refl _), (HV.out.below HB1.out (Nat.le_refl _)).below HBA.out (Nat.le_refl _)⟩
  have HB2 := hide (HB1.out.trans (HBA.out.mono HB1.out.size))
  have HE2 := hide (HE.out.later HBA.out HS1.out)
  have HS2 := hide (Nat.lt_of_lt_of_le HS1.out HBA.out.size)
  clear HE HS1 HBA HU HV HA HB HB1
  go_wp2_with fail
  generalize w1.alloc (.cells #[.slice uo hs.length ucap, .slice vo ks.length vcap] 23) = W2 at *
  refine (generated_two W2 _ _ _ hs ks n nv (by exact HT.out) (by omega) h1 (by omega) HR.out HN.out).mono ?_
  rintro e w3 ⟨u', hs', p', rfl, hu', hb3, hF', hA', hfr⟩
  have hpos : ∀ us ∈ hs', 0 < us.length := fun us hz => by rw [hF'.len us hz]; omega
  have HB3 := hide (HB2.out.trans (hb3.mono HB2.out.size))
  clear c0 c1 z0 z1 d0 d1 y0 y1
  obtain ⟨d0, d1, y0, y1⟩ := HE2.out.later hb3 HS2.out
  have HP : Hid (InsPost w n nv (hs ++ ks) (.returned (.tuple #[.agg #[.int .i64 (n : Int), u'], .nilIface])) ((w3.setCell ⟨w.heap.size + 1 + 1, 0, none⟩ (.int .i64 (n : Int))).setCell ⟨w.heap.size + 1 + 1, 1, none⟩ u')) := ⟨_, hs', rfl, ⟨⟨u', rfl, hu'.setBasis _ _ hpos d0 d1⟩, p', hF'⟩, (HB3.out.setCell (by simp; omega) _).setCell (by simp; omega) _, hA', fun x hx => by simp at hx; rw [← hx]; exact hfr.mono HB2.out.size⟩
  obtain ⟨ro, rcap, rfl, -, -⟩ := hu'
  clear hF' hA' hfr hpos hb3 HT HR HN HB2 HB3 HE2 HS2
  go_wp2
  exact bodyPost_ret (v := .tuple #[.agg #[.int .i64 (n : Int), .slice ro hs'.length rcap], .nilIface]) (by simp [results, Tryz.results30, go_sem, d0, d1]) rfl HP.out

end Go.Proofs.YtdedolkgcdlmeaaGreatDoor
