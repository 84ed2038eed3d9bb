/- Are two lattices the same? -/
import Derived.Test.YtjblidoilphifadGreatDoorSameM
namespace Go.Proofs.YtjblidoilphifadGreatDoor
open Go.RowKit Limbs

/-- Two lattices came in: their boxes. -/
theorem two_boxes (w : World) (a0 a1 b0 b1 : Value) (t t' : TypeId) : Box ((w.alloc (.cells #[a0, a1] t)).alloc (.cells #[b0, b1] t')) w.heap.size a0 a1 ∧ Box ((w.alloc (.cells #[a0, a1] t)).alloc (.cells #[b0, b1] t')) (w.heap.size + 1) b0 b1 ∧ Below w.heap.size w ((w.alloc (.cells #[a0, a1] t)).alloc (.cells #[b0, b1] t')) ∧ w.heap.size + 1 < ((w.alloc (.cells #[a0, a1] t)).alloc (.cells #[b0, b1] t')).heap.size :=
  ⟨(box_new w a0 a1 t _ rfl).later ((Below.refl (w.heap.size + 1) _).alloc (by simp) _) (by omega), box_new _ b0 b1 t' _ (by simp), ((Below.refl w.heap.size w).alloc (Nat.le_refl _) _).alloc (by simp) _, by simp⟩

set_option maxRecDepth 100000 in
set_option maxHeartbeats 1600000 in
theorem sameB_any (w : World) (va vb : Value) (n nv mv : Nat) (hs ks : List (List Int)) (ha : LatN w va n hs nv) (hb : LatN w vb n ks mv) (hn : n ≤ 1000) :
    Calls Tryz.prog 65 #[va, vb] w fun e w' => e = .returned (.bool (decide (hs = ks))) ∧ Below w.heap.size w w' := by
  obtain ⟨⟨u, rfl, hu⟩, p, hF⟩ := ha
  obtain ⟨⟨v, rfl, hv⟩, q, hG⟩ := hb
  have HU := hide hu; have HV := hide hv
  have h1 := hF.short
  have HLE : Hid (∀ zs ∈ hs, zs.length ≤ 100000) := fun zs hz => by have := hF.len zs hz; omega
  obtain ⟨uo, ucap, rfl, -, -⟩ := hu
  obtain ⟨vo, vcap, rfl, -, -⟩ := hv
  clear hF hG
  have HX := hide (two_boxes w (.int .i64 (n : Int)) (.slice uo hs.length ucap) (.int .i64 (n : Int)) (.slice vo ks.length vcap) 25 25)
  obtain ⟨⟨c0, c1, z0, z1⟩, ⟨d0, d1, y0, y1⟩, -, -⟩ := HX.out
  go_enter Tryz.func65, Tryz.ntmps65
  go_wp2_with fail
  clear c0 c1 z0 z1 d0 d1 y0 y1
  generalize ((w.alloc (.cells #[.int .i64 (n : Int), .slice uo hs.length ucap] 25)).alloc (.cells #[.int .i64 (n : Int), .slice vo ks.length vcap] 25)) = W0 at *
  refine (sameMat_any W0 _ _ hs ks nv mv (by exact HU.out.below HX.out.2.2.1 (Nat.le_refl _)) (by exact HV.out.below HX.out.2.2.1 (Nat.le_refl _)) (by omega) HLE.out _ rfl).mono ?_
  rintro e w1 ⟨rfl, hb1⟩
  have HB1 := hide (HX.out.2.2.1.trans (hb1.mono HX.out.2.2.1.size))
  obtain ⟨c0, c1, z0, z1⟩ := HX.out.1.later hb1 (by have := HX.out.2.2.2; omega)
  obtain ⟨d0, d1, y0, y1⟩ := HX.out.2.1.later hb1 HX.out.2.2.2
  generalize hr : decide (hs = ks) = r at *
  clear hb1 HX HU HV
  have HRR := hide hr
  clear hr
  go_wp2
  go_ret
  exact ⟨by rw [HRR.out]; rfl, HB1.out⟩

set_option maxRecDepth 100000 in
set_option maxHeartbeats 1600000 in
theorem alikeB_any (w : World) (va vb : Value) (n nv mv : Nat) (hs ks : List (List Int)) (ha : LatN w va n hs nv) (hb : LatN w vb n ks mv) (hn : n ≤ 1000) :
    Calls Tryz.prog 30 #[va, vb] w fun e w' => e = .returned (.bool (decide (hs = ks))) ∧ Below w.heap.size w w' := by
  have HA := hide ha; have HB := hide hb
  obtain ⟨⟨u, rfl, ⟨uo, ucap, rfl, -, -⟩⟩, -⟩ := ha
  obtain ⟨⟨v, rfl, ⟨vo, vcap, rfl, -, -⟩⟩, -⟩ := hb
  have HX := hide (two_boxes w (.int .i64 (n : Int)) (.slice uo hs.length ucap) (.int .i64 (n : Int)) (.slice vo ks.length vcap) 25 25)
  obtain ⟨⟨c0, c1, z0, z1⟩, ⟨d0, d1, y0, y1⟩, -, -⟩ := HX.out
  go_enter Tryz.func30, Tryz.ntmps30
  go_wp2_with fail
  clear c0 c1 z0 z1 d0 d1 y0 y1
  generalize ((w.alloc (.cells #[.int .i64 (n : Int), .slice uo hs.length ucap] 25)).alloc (.cells #[.int .i64 (n : Int), .slice vo ks.length vcap] 25)) = W0 at *
  refine (sameB_any W0 _ _ n nv mv hs ks (by exact HA.out.below HX.out.2.2.1) (by exact HB.out.below HX.out.2.2.1) hn).mono ?_
  rintro e w1 ⟨rfl, hb1⟩
  have HB1 := hide (HX.out.2.2.1.trans (hb1.mono HX.out.2.2.1.size))
  clear hb1 HX
  go_wp2
  go_ret
  exact ⟨rfl, HB1.out⟩

end Go.Proofs.YtjblidoilphifadGreatDoor
