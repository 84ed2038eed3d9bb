/- The closed fact: numbers of any size. Where the library's table of powers of ten is laid. -/
import Derived.Test.YtaijeimgbbpgiaaDoorBigsA
import Derived.Test.YtaijeimgbbpgiaaDoorTextB
import Derived.Test.YtaijeimgbbpgiaaDoorNames
namespace Go.Proofs.YtaijeimgbbpgiaaDoor
open Go.RowKit Limbs

set_option maxRecDepth 100000 in
set_option maxHeartbeats 6400000 in
theorem bigs_any (w : World) (ht : Tab w) : Calls Tryd.prog 11 #[] w fun e w' => e = .returned (.bool true) ∧ Below w.heap.size w w' := by
  have HTB := hide ht; clear ht
  go_enter Tryd.func11, Tryd.ntmps11
  go_wp2_with fail
  refine (of_any w (-3) (by decide) (by decide)).mono ?_
  rintro e w1 ⟨r1, rfl, hr1, hb1⟩
  go_wp2_with fail
  refine (of_any w1 1099511627776 (by decide) (by decide)).mono ?_
  rintro e w2 ⟨r2, rfl, hr2, hb2⟩
  go_wp2_with fail
  refine (mul_any w2 _ _ (-3) 1099511627776 2 2 (hr1.below hb2 (Nat.le_refl _)) hr2 (by decide) (by decide)).mono ?_
  rintro e w3 ⟨r3, rfl, hr3, hb3⟩
  obtain ⟨⟨an, ao, al, ac⟩, rfl⟩ := hr3.nm
  have hal : Below w3.heap.size w3 (w3.alloc (.cells #[.bool an, .slice ao al ac] 33)) := (Below.refl _ _).alloc (Nat.le_refl _) _
  have HV := hide (show Var (w3.alloc (.cells #[.bool an, .slice ao al ac] 33)) w3.heap.size ⟨an, ao, al, ac⟩ (-3298534883328) from ⟨box_new w3 _ _ _ _ rfl, (show NumL w3 _ (-3298534883328) 12 from hr3.mono (by decide)).below hal (Nat.le_refl _), by simp⟩)
  have HB3 := hide (hb1.trans ((hb2.mono hb1.size).trans (hb3.mono (Nat.le_trans hb1.size hb2.size))))
  have HW4 := hide (HB3.out.trans (hal.mono HB3.out.size))
  have HLO : Hid (w.heap.size ≤ w3.heap.size) := HB3.out.size
  clear hr1 hr2 hr3 hb1 hb2 hb3 hal HB3
  go_wp2_with fail
  generalize w3.alloc (.cells #[.bool an, .slice ao al ac] 33) = w4 at *
  generalize w3.heap.size = A at *
  refine region_inv (by kernel_rfl) (by kernel_rfl) (fun L a' w' => ∃ c2 c3 c4 c8 c9 c10 c11 c12 c13 c14 : Value, a' = (⟨#[.bool false, ptr A, c2, c3, c4, r1, r2, .agg #[.bool an, .slice ao al ac], c8, c9, c10, c11, c12, c13, c14, undef, undef, undef, undef, undef, undef, undef, undef, undef, undef, undef, undef, undef, undef, undef, undef, undef], []⟩ : Act) ∧ Q2 w w' L A ⟨an, ao, al, ac⟩ c2 c3 c4 c8 c9 c10 c11 c12 c13 c14) ⟨_, _, _, _, _, _, _, _, _, _, rfl, ⟨HV.out.drew, HW4.out.drew, HLO.out, fun h => by simp at h, fun h => by simp at h, fun h => by simp at h, fun h => by simp at h, fun h => by simp at h, fun h => by simp at h, fun h => by simp at h, fun h => by simp at h, fun h => by simp at h, fun h => by simp at h, fun h => by simp at h, fun h => by simp at h, fun h => by simp at h⟩⟩ ?_ ?_
  · rintro L a' w' i o ⟨c2, c3, c4, c8, c9, c10, c11, c12, c13, c14, rfl, R⟩ ho hn hdep K hK
    have hi : i < 12 := (Array.getElem?_eq_some_iff.1 ho).1
    rcases (by omega : i = 0 ∨ i = 1 ∨ i = 2 ∨ i = 3 ∨ i = 4 ∨ i = 5 ∨ i = 6 ∨ i = 7 ∨ i = 8 ∨ i = 9 ∨ i = 10 ∨ i = 11) with rfl | rfl | rfl | rfl | rfl | rfl | rfl | rfl | rfl | rfl | rfl | rfl
    · obtain rfl := Option.some.inj ho
      obtain ⟨p0, p1, -, -⟩ := R.a.box
      dsimp only at p0 p1
      go_simp
      exact hK.out _ _ ⟨_, _, _, _, _, _, _, _, _, _, rfl, R.at0 rfl⟩
    · obtain rfl := Option.some.inj ho
      go_simp
      refine (of_any w' 7 (by decide) (by decide)).mono ?_
      rintro e w1 ⟨x1, rfl, hr1, hb1⟩
      obtain ⟨r, rfl⟩ := hr1.nm
      have R' := (R.later hb1).at1 ⟨r, rfl, hr1.mono (by decide)⟩
      clear R hr1 hb1
      go_wp2_with fail
      exact hK.out _ _ ⟨_, _, _, _, _, _, _, _, _, _, rfl, R'⟩
    · obtain rfl := Option.some.inj ho
      obtain rfl := R.f9 (hdep ⟨0, .data⟩ (by simp) rfl)
      obtain ⟨r, rfl, hr⟩ := R.f10 (hdep ⟨1, .data⟩ (by simp) rfl)
      go_simp
      refine (div_any w' _ _ (-3298534883328) 7 12 12 R.a.num hr (by decide) (by decide)).mono ?_
      rintro e w1 ⟨vq, vr, q, r', rfl, hq, hr', hqr, hle, hb1⟩
      obtain ⟨rfl, rfl⟩ : q = (-471219269047) ∧ r' = 1 := by have := hle.1 (by decide); omega
      obtain ⟨qm, rfl⟩ := hq.nm
      obtain ⟨rm, rfl⟩ := hr'.nm
      have R' := (R.later hb1).at2 ⟨qm, rm, rfl, hq.tight (m := 12) (by decide), hr'⟩
      clear R hq hr' hqr hle hb1 hr
      go_wp2_with fail
      exact hK.out _ _ ⟨_, _, _, _, _, _, _, _, _, _, rfl, R'⟩
    · obtain rfl := Option.some.inj ho
      obtain ⟨q, r, rfl, hq, hr⟩ := R.f11 (hdep ⟨2, .data⟩ (by simp) rfl)
      go_simp
      exact hK.out _ _ ⟨_, _, _, _, _, _, _, _, _, _, rfl, R.at3 ⟨q, r, rfl, hq, hr⟩⟩
    · obtain rfl := Option.some.inj ho
      obtain ⟨q, r, rfl, hq, hr⟩ := R.f8 (hdep ⟨3, .data⟩ (by simp) rfl)
      go_simp
      exact hK.out _ _ ⟨_, _, _, _, _, _, _, _, _, _, rfl, R.at4 ⟨q, rfl, hq⟩⟩
    · obtain rfl := Option.some.inj ho
      obtain ⟨q, r, rfl, hq, hr⟩ := R.f8 (hdep ⟨3, .data⟩ (by simp) rfl)
      go_simp
      exact hK.out _ _ ⟨_, _, _, _, _, _, _, _, _, _, rfl, R.at5 ⟨r, rfl, hr⟩⟩
    · obtain rfl := Option.some.inj ho
      obtain ⟨q, r, rfl, hq, hr⟩ := R.f8 (hdep ⟨3, .data⟩ (by simp) rfl)
      go_simp
      exact hK.out _ _ ⟨_, _, _, _, _, _, _, _, _, _, rfl, R.at6 rfl⟩
    · obtain rfl := Option.some.inj ho
      have R' := R.at7 33 hn
      clear R
      go_simp
      exact hK.out _ _ ⟨_, _, _, _, _, _, _, _, _, _, rfl, R'⟩
    · obtain rfl := Option.some.inj ho
      have R' := R.at8 33 hn
      clear R
      go_simp
      exact hK.out _ _ ⟨_, _, _, _, _, _, _, _, _, _, rfl, R'⟩
    · obtain rfl := Option.some.inj ho
      have h6 := (hdep ⟨7, .data⟩ (by simp) rfl)
      obtain ⟨B, sv, z, rfl, hB, hv, -⟩ := R.f2 h6
      obtain ⟨r, rfl, hnum⟩ := R.f12 (hdep ⟨4, .data⟩ (by simp) rfl)
      have R' := R.at9 h6 rfl hB hv hnum
      obtain ⟨rn, ro, rl, rc⟩ := r
      obtain ⟨v0, v1, v2, v3⟩ := hv.box
      dsimp only at *
      clear R hv hnum
      go_simp
      exact hK.out _ _ ⟨_, _, _, _, _, _, _, _, _, _, rfl, R'⟩
    · obtain rfl := Option.some.inj ho
      have h6 := (hdep ⟨8, .data⟩ (by simp) rfl)
      obtain ⟨B, sv, z, rfl, hB, hv, -⟩ := R.f3 h6
      obtain ⟨r, rfl, hnum⟩ := R.f13 (hdep ⟨5, .data⟩ (by simp) rfl)
      have R' := R.at10 h6 rfl hB hv hnum
      obtain ⟨rn, ro, rl, rc⟩ := r
      obtain ⟨v0, v1, v2, v3⟩ := hv.box
      dsimp only at *
      clear R hv hnum
      go_simp
      exact hK.out _ _ ⟨_, _, _, _, _, _, _, _, _, _, rfl, R'⟩
    · obtain rfl := Option.some.inj ho
      obtain rfl := R.f14 (hdep ⟨6, .data⟩ (by simp) rfl)
      go_simp
      exact hK.out _ _ ⟨_, _, _, _, _, _, _, _, _, _, rfl, R.at11 rfl⟩
  · rintro L a' w5 ⟨c2, c3, c4, c8, c9, c10, c11, c12, c13, c14, rfl, R⟩ hall
    obtain ⟨H, ⟨un, uo, ul, uc⟩, zh, rfl, hH, vH, zH⟩ := R.f2 (hall 7 (by decide))
    obtain ⟨U, ⟨vn, vo, vl, vc⟩, zu, rfl, hU, vU, zU⟩ := R.f3 (hall 8 (by decide))
    obtain rfl := zH (hall 9 (by decide))
    obtain rfl := zU (hall 10 (by decide))
    obtain rfl := R.f4 (hall 11 (by decide))
    have VA5 := hide R.a
    have VQ5 := hide vH
    have VR5 := hide vU
    have hW5 := hide R.below
    obtain ⟨p50, p51, -, -⟩ := VA5.out.box
    obtain ⟨q50, q51, -, -⟩ := VQ5.out.box
    obtain ⟨s50, s51, -, -⟩ := VR5.out.box
    dsimp only at p50 p51 q50 q51 s50 s51
    clear R vH vU zH zU hall HV HW4
    go_wp2_with fail
    refine (same_nil 0 _).mono ?_
    rintro e w6 ⟨rfl, rfl⟩
    rw [show ((0 : Int) == 0) = true from rfl]
    go_wp2_with fail
    refine (text_any _ _ (-3298534883328) 12 (HTB.out.below hW5.out) VA5.out.num (by decide) (by decide)).mono ?_
    rintro e w7 ⟨rfl, hb⟩
    rw [show txt (-3298534883328) = [45, 51, 50, 57, 56, 53, 51, 52, 56, 56, 51, 51, 50, 56] by decide +kernel]
    have VA7 := hide (VA5.out.later hb)
    have VQ7 := hide (VQ5.out.later hb)
    have VR7 := hide (VR5.out.later hb)
    have hW7 := hide (hW5.out.trans (hb.mono hW5.out.size))
    clear hb VA5 VQ5 VR5 p50 p51 q50 q51 s50 s51
    obtain ⟨p70, p71, -, -⟩ := VA7.out.box
    obtain ⟨q70, q71, -, -⟩ := VQ7.out.box
    obtain ⟨s70, s71, -, -⟩ := VR7.out.box
    dsimp only at p70 p71 q70 q71 s70 s71
    go_wp2_with fail
    refine (text_any _ _ (-471219269047) 12 (HTB.out.below hW7.out) VQ7.out.num (by decide) (by decide)).mono ?_
    rintro e w8 ⟨rfl, hb⟩
    rw [show txt (-471219269047) = [45, 52, 55, 49, 50, 49, 57, 50, 54, 57, 48, 52, 55] by decide +kernel]
    have VA8 := hide (VA7.out.later hb)
    have VQ8 := hide (VQ7.out.later hb)
    have VR8 := hide (VR7.out.later hb)
    have hW8 := hide (hW7.out.trans (hb.mono hW7.out.size))
    clear hb VA7 VQ7 VR7 p70 p71 q70 q71 s70 s71
    obtain ⟨p80, p81, -, -⟩ := VA8.out.box
    obtain ⟨q80, q81, -, -⟩ := VQ8.out.box
    obtain ⟨s80, s81, -, -⟩ := VR8.out.box
    dsimp only at p80 p81 q80 q81 s80 s81
    go_wp2_with fail
    refine (text_any _ _ 1 12 (HTB.out.below hW8.out) VR8.out.num (by decide) (by decide)).mono ?_
    rintro e w9 ⟨rfl, hb⟩
    rw [show txt 1 = [49] by decide +kernel]
    have VA9 := hide (VA8.out.later hb)
    have VQ9 := hide (VQ8.out.later hb)
    have VR9 := hide (VR8.out.later hb)
    have hW9 := hide (hW8.out.trans (hb.mono hW8.out.size))
    clear hb VA8 VQ8 VR8 p80 p81 q80 q81 s80 s81
    obtain ⟨p90, p91, -, -⟩ := VA9.out.box
    obtain ⟨q90, q91, -, -⟩ := VQ9.out.box
    obtain ⟨s90, s91, -, -⟩ := VR9.out.box
    dsimp only at p90 p91 q90 q91 s90 s91
    go_wp2
    go_ret
    exact ⟨rfl, hW9.out⟩

end Go.Proofs.YtaijeimgbbpgiaaDoor
