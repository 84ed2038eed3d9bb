/- VecSays: the beginning: a closed fact; what is too great. -/
import Derived.Test.YtklhmnejmbgmjabGreatDoorVSB
namespace Go.Proofs.YtklhmnejmbgmjabGreatDoor
open Go.RowKit Limbs Digs

theorem rowS_two (w : World) (a b : Int) (ha : -9223372036854775808 ≤ a ∧ a ≤ 9223372036854775807) (hb : -9223372036854775808 ≤ b ∧ b ≤ 9223372036854775807) : RowS (w.alloc (.cells #[.int .i64 a, .int .i64 b] 3)) (.slice (some ⟨w.heap.size, 0, none⟩) 2 2) [a, b] := by
  refine ⟨_, _, rfl, Nat.le_refl _, fun i => ?_, fun _ => ⟨_, _, rfl, by simp, fun i hi => ?_⟩⟩
  · match i with
    | 0 => exact ha
    | 1 => exact hb
    | i + 2 => simp
  · rw [Nat.zero_add, World.cell?_alloc_new]
    match i, hi with
    | 0, _ => rfl
    | 1, _ => rfl

set_option maxRecDepth 100000 in
set_option maxHeartbeats 1600000 in
theorem vecs_any (w : World) (ht : Tab w) : Calls Tryz.prog 8 #[] w fun e w' => e = .returned (.bool true) ∧ Below w.heap.size w w' := by
  have HT := hide ht
  clear ht
  go_enter Tryz.func8, Tryz.ntmps8
  go_wp2_with fail
  refine (ofV_any _ _ [1, 2] (rowS_two w 1 2 (by decide) (by decide)) (by decide)).mono ?_
  rintro e w1 ⟨P1, rfl, hv1⟩
  have HV1 := hide hv1.vec
  have HB1 := hide (((Below.refl w.heap.size w).alloc (Nat.le_refl _) _).trans (hv1.below.mono (by simp)))
  clear hv1
  go_wp2_with fail
  refine (ofV_any _ _ [3, -5] (rowS_two w1 3 (-5) (by decide) (by decide)) (by decide)).mono ?_
  rintro e w2 ⟨P2, rfl, hv2⟩
  have hbA := ((Below.refl w1.heap.size w1).alloc (Nat.le_refl _) _).trans (hv2.below.mono (by simp))
  have HV2 := hide hv2.vec
  have HV1' := hide (HV1.out.below hbA (Nat.le_refl _))
  have HB2 := hide (HB1.out.trans (hbA.mono HB1.out.size))
  clear hv2 hbA HV1 HB1
  go_wp2_with fail
  refine (addV_any w2 _ _ [1, 2] [3, -5] 2 HV1'.out HV2.out rfl (by decide) (by decide)).mono ?_
  rintro e w3 ⟨P3, rfl, hv3⟩
  have HV3 : Hid (VecN w3 (.slice (some ⟨P3, 0, none⟩) 2 2) [4, -3] 3) := hv3.vec
  have HB3 := hide (HB2.out.trans (hv3.below.mono HB2.out.size))
  clear hv3 HV1' HV2 HB2
  go_wp2_with fail
  refine (same_zero w3).mono ?_
  rintro e w3' ⟨rfl, rfl⟩
  go_wp2_with fail
  refine (vtext_any w3' _ [4, -3] 3 (HT.out.below HB3.out) HV3.out (by decide) (by decide) (by decide) (by decide +kernel)).mono ?_
  rintro e w4 ⟨rfl, hb4⟩
  rw [show vtxt [4, -3] = [40, 52, 32, 45, 51, 41] by decide +kernel]
  have HB4 := hide (HB3.out.trans (hb4.mono HB3.out.size))
  clear hb4 HB3 HV3
  go_wp2
  go_ret
  exact ⟨rfl, HB4.out⟩

end Go.Proofs.YtklhmnejmbgmjabGreatDoor
